/- The reference on disks: Right, Copy, step, look, Read, Write; the law DiskWrites. The reference on disks: Arm, Sync, Torn. The reference: sums, Seal.  -/
import Derived.Test.YtfachlmgdlnpoaaDoorRD
namespace Go.Proofs.YtfachlmgdlnpoaaDoor
open Go.RowKit
set_option linter.unusedVariables false
set_option linter.unusedSimpArgs false
set_option maxRecDepth 8000
set_option maxHeartbeats 2000000

theorem Qdh {α : Type} {q : α -> Bool} {l : List α} {i : Nat} {x : α} (h : l[i]? = some x) (hx : q x = false) : (l.drop i).any q = (l.drop (i + 1)).any q := by
 obtain ⟨hl, he⟩ := List.getElem?_eq_some_iff.1 h
 rw [List.drop_eq_getElem_cons hl, he, List.any_cons, hx, Bool.false_or]
theorem QaI {Qb : List (List Int)} {Qa : List (Int × List Int)} {i : Nat} {p : Int × List Int} (h : Qa[i]? = some p) (hb : Vq Qb p.1 = false) : QM Qb Qa = false := by
 unfold QM
 have : (Qa.any fun p => !Vq Qb p.1) = true := List.any_eq_true.2 ⟨p, List.mem_of_getElem? h, by simp [hb]⟩
 simp [this]
theorem E9 {Qb : List (List Int)} {a : Int} (h : a < 0 \/ (Qb.length : Int) <= a) : Vq Qb a = false := by
 unfold Vq
 simp
 omega
theorem Jg {Qb : List (List Int)} {a : Int} (h : ¬ a < 0) (h2 : ¬ (Qb.length : Int) <= a) : Vq Qb a = true := by
 unfold Vq
 simp
 omega
set_option maxHeartbeats 1000000 in
theorem JY (Qb : List (List Int)) (Qa : List (Int × List Int)) (Qd : Int) (Qc : Bool) (s1 s2 : Value) (w : World) (L : List Nat) (hL : LL L w) (h1 : QD 128 L w s1 (Qb.map Qr)) (h2 : QD 129 L w s2 (Qa.map QG)) : CV Tryd.prog 56 [.agg #[s1, s2, .int .i64 Qd, .bool Qc]] w fun v W => v = .bool (QM Qb Qa) := by
 refine QN (N := 46) (f := [(0, .agg #[s1, s2, .int .i64 Qd, .bool Qc])]) Tryd.func56 rfl rfl rfl rfl fun Q hQ hE => ?_
 have hB := Below.refl w.heap.size w
 have h1m : Qb.length <= maxLen := by have := h1.len; rwa [List.length_map] at this
 unfold maxLen at h1m
 have h2m : Qa.length <= maxLen := by have := h2.len; rwa [List.length_map] at this
 unfold maxLen at h2m
 refine Sq fun K1 hK1 => (Rg ?_)
 refine Ge (Xa rfl rfl rfl) rfl rfl ?_
 rintro _ W2 ⟨rfl, k3, b4, z5⟩
 have l6 := hB.size
 replace h1 := h1.more b4 (Nat.le_refl _)
 replace h2 := h2.more b4 (Nat.le_refl _)
 replace hB := Qe hB b4
 replace hL := LL.more hL z5
 refine Pu rfl (Ni (hK1 (Sq fun K7 hK7 => (Sq fun K8 hK8 => (Rg (Va (Qn (o1 := 0) rfl QE rfl rfl) rfl rfl (Va (Qi rfl Q7 rfl (k3.cell (k := 0) rfl)) rfl rfl ?_)))))))
 refine Va (QT rfl QW rfl h1) rfl rfl (Va (Xe rfl rfl rfl) rfl rfl (Pu rfl ?_))
 refine WL.split 8 rfl (fun g9 => ?_) (fun g9 => ?_)
 .
  replace g9 := dT g9
  refine Of rfl (Of rfl (Of rfl (Of rfl (Pu rfl (Pu rfl (Of rfl (Of rfl ?_)))))))
  refine Of rfl (Of rfl (Pu rfl (Ni (hK8 (WC.condT rfl (Sq fun K10 hK10 => (Rg ?_)))))))
  refine Pu rfl (Ni (hK10 ?_))
  exact WC.ret fun a_ ha_ => hQ (QI rfl (.tmp rfl) (by rw [show QM Qb Qa = false from (by simp [QM, g9])]) hB ha_)
 .
  replace g9 := dF g9
  refine Va (Qn (o1 := 0) rfl QE rfl rfl) rfl rfl (Va (Qi rfl Q7 rfl (k3.cell (k := 0) rfl)) rfl rfl (Va (QT rfl QW rfl h1) rfl rfl (Va (XL rfl rfl rfl) rfl rfl (Pu rfl (Pu rfl ?_)))))
  refine WL.split 14 rfl (fun g11 => ?_) (fun g11 => ?_)
  .
   replace g11 := dT g11
   refine Of rfl (Of rfl (Of rfl (Of rfl (Pu rfl (Ni (hK8 (WC.condT rfl ?_)))))))
   refine Sq fun K12 hK12 => (Rg (Pu rfl (Ni (hK12 ?_))))
   exact WC.ret fun a_ ha_ => hQ (QI rfl (.tmp rfl) (by rw [show QM Qb Qa = false from (by simp [QM, g9, g11])]) hB ha_)
  .
   replace g11 := dF g11
   refine Va (Qn (o1 := 1) rfl QJ rfl rfl) rfl rfl (Va (Qi rfl Xf rfl (k3.cell (k := 1) rfl)) rfl rfl (Va (QT rfl QY rfl h2) rfl rfl (Va (XL rfl rfl rfl) rfl rfl (Pu rfl (Ni (hK8 ?_))))))
   refine WC.cond rfl (fun c13 => ?_) (fun c13 => ?_)
   .
    replace c13 := dT c13
    refine Sq fun K14 hK14 => (Rg (Pu rfl (Ni (hK14 ?_))))
    exact WC.ret fun a_ ha_ => hQ (QI rfl (.tmp rfl) (by rw [show QM Qb Qa = false from (by simp [QM, g9, g11, c13])]) hB ha_)
   .
    replace c13 := dF c13
    refine WC.skip (hK7 (Sq fun K15 hK15 => (Sq fun K16 hK16 => (Rg (Pu rfl (Ni (hK16 ?_)))))))
    refine WC.block ?_
    refine WC.loop (fun (i : Nat) => [(1, .pointer (some ⟨w.heap.size, 0, none⟩)), (3, .int .i64 (i : Int))]) (fun (i : Nat) W => i <= Qa.length /\ (Qa.any fun p => !Vq Qb p.1) = ((Qa.drop i).any fun p => !Vq Qb p.1) /\ Below w.heap.size w W /\ LL (w.heap.size :: L) W /\ QD 128 (w.heap.size :: L) W s1 (Qb.map Qr) /\ QD 129 (w.heap.size :: L) W s2 (Qa.map QG) /\ Xc W w.heap.size [s1, s2, .int .i64 Qd, .bool Qc]) (fun (i : Nat) => Qa.length - i) 0 (by repeat first | exact trivial | refine aR ?_ | refine aI (by omega) ?_) ⟨Nat.zero_le _, rfl, hB, hL, h1, h2, k3⟩ ?_
    clear h1 h2 k3 hB hL
    rintro K17 i W18 ⟨hi, hv, hB, hL, h1, h2, k3⟩ hK17
    refine Sq fun K19 hK19 => (Sq fun K20 hK20 => (Rg (Pu rfl (Va (Qn (o1 := 1) rfl QJ rfl rfl) rfl rfl (Va (Qi rfl Xf rfl (k3.cell (k := 1) rfl)) rfl rfl (Va (QT rfl QY rfl h2) rfl rfl (Va (Xe rfl rfl rfl) rfl rfl ?_)))))))
    refine Ni (hK20 ?_)
    refine WC.cond rfl (fun c21 => ?_) (fun c21 => ?_)
    .
     replace c21 := dT c21
     refine WC.skip (hK19 (Sq fun K22 hK22 => (WC.block (Sq fun K23 hK23 => ?_))))
     obtain ⟨r24, e25⟩ : ∃ x, Qa[i]? = some x := ⟨_, List.getElem?_eq_getElem (by omega)⟩
     have Lr24 := J1 h2 e25
     obtain ⟨b26, hb26⟩ : ∃ b, b = (decide (r24.1 < 0)) := ⟨_, rfl⟩
     refine dM 19 [(some 27, .is (.pointer (some ⟨w.heap.size, 1, none⟩))), (some 28, .is (s2)), (some 29, .is (.int .i64 (i : Int))), (some 30, .by fun u W => JB (w.heap.size :: L) W u (QG r24)), (some 31, .by fun u W => JB (w.heap.size :: L) W u [.int .i64 r24.1]), (some 32, .is (.int .i64 r24.1)), (some 33, .is (.bool (decide (r24.1 < 0)))), (some 34, .is (.bool b26)), (some 35, .is (bif b26 then undef else .pointer (some ⟨w.heap.size, 1, none⟩))), (some 36, .is (bif b26 then undef else s2)), (some 37, .is (bif b26 then undef else .int .i64 (i : Int))), (some 38, .by fun u W => b26 = false -> JB (w.heap.size :: L) W u (QG r24)), (some 39, .by fun u W => b26 = false -> JB (w.heap.size :: L) W u [.int .i64 r24.1]), (some 40, .is (bif b26 then undef else .int .i64 r24.1)), (some 41, .is (bif b26 then undef else .pointer (some ⟨w.heap.size, 0, none⟩))), (some 42, .is (bif b26 then undef else s1)), (some 43, .is (bif b26 then undef else .int .i64 (Qb.length : Int))), (some 44, .is (bif b26 then undef else .bool (decide ((Qb.length : Int) <= r24.1)))), (some 45, .is (.bool (b26 || (decide ((Qb.length : Int) <= r24.1)))))] [[], [0], [], [1, 2], [3], [4], [5], [6], [7], [8, 7], [7], [9, 10, 7], [11, 7], [12, 7], [7], [14, 7], [15, 7], [13, 16, 7], [7, 17]] ⟨fun _ _ _ hb h => h.below hb, fun _ _ _ hb h => h.below hb, fun _ _ _ hb h g => (h g).below hb, fun _ _ _ hb h g => (h g).below hb, trivial⟩ ?_ ?_
     .
      refine Dc (fun Wd hd => ?_) ?_
      .
       exact Dd (Qn (o1 := 1) rfl QJ rfl rfl) rfl
      refine Dc (fun Wd hd => ?_) ?_
      .
       have k3 := k3.below hd
       exact Dd (Qi rfl Xf rfl (k3.cell (k := 1) rfl)) rfl
      refine Dc (fun Wd hd => ?_) ?_
      .
       exact Dd (Qt rfl rfl) rfl
      refine Dc (fun Wd hd => ?_) ?_
      .
       have h2 := h2.below hd
       exact (XH i rfl QY rfl rfl h2 (by omega) (XG e25)).mono (fun v W' h => ⟨by rw [<- h.1]; exact Below.refl _ _, by rw [<- h.1]; exact h.2⟩)
      refine Dc (fun Wd hd => ?_) ?_
      .
       intro u6_3 p6_3
       exact (V1 1 rfl ZB rfl p6_3 (cs' := [.int .i64 r24.1]) (by simp [QG, List.take_of_length_le, Qo, Lr24]) (Nat.succ_pos _)).mono (fun v W' h => ⟨by rw [<- h.1]; exact Below.refl _ _, by rw [<- h.1]; exact h.2⟩)
      refine Dc (fun Wd hd => ?_) ?_
      .
       intro u6_4 p6_4
       exact Dd (Zn rfl Qv rfl p6_4) rfl
      refine Dc (fun Wd hd => ?_) ?_
      .
       exact Dd (Xe rfl rfl rfl) rfl
      refine Dc (fun Wd hd => ?_) ?_
      .
       exact DV.dr (Qt rfl rfl) ⟨Below.refl _ _, by rw [hb26]; rfl⟩
      refine Dc (fun Wd hd => ?_) ?_
      .
       cases b26
       .
        exact Dd (Qn (o1 := 1) rfl QJ rfl rfl) rfl
       .
        exact Dd (Xb rfl) rfl
      refine Dc (fun Wd hd => ?_) ?_
      .
       cases b26
       .
        have k3 := k3.below hd
        exact Dd (Qi rfl Xf rfl (k3.cell (k := 1) rfl)) rfl
       .
        exact Dd (Xb rfl) rfl
      refine Dc (fun Wd hd => ?_) ?_
      .
       cases b26
       .
        exact Dd (Qt rfl rfl) rfl
       .
        exact Dd (Xb rfl) rfl
      refine Dc (fun Wd hd => ?_) ?_
      .
       cases b26
       .
        have h2 := h2.below hd
        exact (XH i rfl QY rfl rfl h2 (by omega) (XG e25)).mono (fun v W' h => ⟨by rw [<- h.1]; exact Below.refl _ _, fun _ => by rw [<- h.1]; exact h.2⟩)
       .
        exact DV.dr (Xb rfl) ⟨Below.refl _ _, fun h => by cases h⟩
      refine Dc (fun Wd hd => ?_) ?_
      .
       intro u6_11 p6_11
       cases b26
       .
        replace p6_11 := p6_11 rfl
        exact (V1 1 rfl ZB rfl p6_11 (cs' := [.int .i64 r24.1]) (by simp [QG, List.take_of_length_le, Qo, Lr24]) (Nat.succ_pos _)).mono (fun v W' h => ⟨by rw [<- h.1]; exact Below.refl _ _, fun _ => by rw [<- h.1]; exact h.2⟩)
       .
        exact DV.dr (Xb rfl) ⟨Below.refl _ _, fun h => by cases h⟩
      refine Dc (fun Wd hd => ?_) ?_
      .
       intro u6_12 p6_12
       cases b26
       .
        replace p6_12 := p6_12 rfl
        exact Dd (Zn rfl Qv rfl p6_12) rfl
       .
        exact Dd (Xb rfl) rfl
      refine Dc (fun Wd hd => ?_) ?_
      .
       cases b26
       .
        exact Dd (Qn (o1 := 0) rfl QE rfl rfl) rfl
       .
        exact Dd (Xb rfl) rfl
      refine Dc (fun Wd hd => ?_) ?_
      .
       cases b26
       .
        have k3 := k3.below hd
        exact Dd (Qi rfl Q7 rfl (k3.cell (k := 0) rfl)) rfl
       .
        exact Dd (Xb rfl) rfl
      refine Dc (fun Wd hd => ?_) ?_
      .
       cases b26
       .
        have h1 := h1.below hd
        exact Dd (QT rfl QW rfl h1) rfl
       .
        exact Dd (Xb rfl) rfl
      refine Dc (fun Wd hd => ?_) ?_
      .
       cases b26
       .
        exact Dd (Yr rfl rfl rfl) rfl
       .
        exact Dd (Xb rfl) rfl
      refine Dc (fun Wd hd => ?_) ?_
      .
       cases b26
       .
        exact Dd (ZT rfl rfl rfl) rfl
       .
        exact Dd (ZT rfl rfl rfl) rfl
      exact trivial
     .
      intro W27 b28
      intro u6_3 p6_3
      intro u6_4 p6_4
      intro _ _
      intro _ _
      replace h1 := h1.below b28
      replace h2 := h2.below b28
      replace k3 := k3.below b28
      replace hB := Qe hB b28
      replace hL := LL.below hL b28
      refine Ni (hK23 ?_)
      refine WC.cond rfl (fun c29 => ?_) (fun c29 => ?_)
      .
       refine Sq fun K30 hK30 => (Rg (Pu rfl (Ni (hK30 ?_))))
       exact WC.ret fun a_ ha_ => hQ (QI rfl (.tmp rfl) (by rw [QaI e25 (E9 (by rw [hb26] at c29; simpa using c29))]) hB ha_)
      .
       refine WC.skip (hK22 (Rg (Pu rfl (Va (QR (r := (i : Int) + 1) rfl rfl rfl (Qm (by omega))) rfl rfl (Pu rfl (Ni ?_))))))
       exact hK17 (i + 1) ⟨(by omega), (by rw [hv]; exact Qdh e25 (by have hh : Vq Qb r24.1 = true := Jg (by have := (Qaj c29).1; rw [hb26] at this; exact of_decide_eq_false this) (of_decide_eq_false (Qaj c29).2); simp [hh])), hB, hL, h1, h2, k3⟩ (by omega) (by repeat first | exact trivial | refine aR ?_ | refine aI (by omega) ?_)
    .
     replace c21 := dF c21
     refine WC.exit ?_
     refine hK15 (Sq fun K31 hK31 => (Rg (Pu rfl (Ni (hK31 ?_)))))
     exact WC.ret fun a_ ha_ => hQ (QI rfl (.tmp rfl) (by rw [show QM Qb Qa = true from (by unfold QM; rw [hv, List.drop_eq_nil_of_le (by omega)]; simp [g9, g11, c13])]) hB ha_)

def Z4 (Qd : Int) (Qc : Bool) : Int × Bool × Bool := if Qc = true \/ Qd = 0 then (Qd, true, false) else if 0 < Qd then (Qd - 1, Qc, true) else (Qd, Qc, true)
set_option maxHeartbeats 1000000 in
theorem EU (Qb : List (List Int)) (Qa : List (Int × List Int)) (Qd : Int) (Qc : Bool) (s1 s2 : Value) (w : World) (L : List Nat) (hL : LL L w) (h1 : QD 128 L w s1 (Qb.map Qr)) (h2 : QD 129 L w s2 (Qa.map QG))  (hfu : -9223372036854775808 <= Qd /\ Qd <= 9223372036854775807) : CV Tryd.prog 83 [.agg #[s1, s2, .int .i64 Qd, .bool Qc]] w fun v W => v = .tuple #[.agg #[s1, s2, .int .i64 (Z4 Qd Qc).1, .bool (Z4 Qd Qc).2.1], .bool (Z4 Qd Qc).2.2] := by
 refine QN (N := 21) (f := [(0, .agg #[s1, s2, .int .i64 Qd, .bool Qc])]) Tryd.func83 rfl rfl rfl rfl fun Q hQ hE => ?_
 have hB := Below.refl w.heap.size w
 have h1m : Qb.length <= maxLen := by have := h1.len; rwa [List.length_map] at this
 unfold maxLen at h1m
 have h2m : Qa.length <= maxLen := by have := h2.len; rwa [List.length_map] at this
 unfold maxLen at h2m
 refine Sq fun K1 hK1 => (Rg ?_)
 refine Ge (Xa rfl rfl rfl) rfl rfl ?_
 rintro _ W2 ⟨rfl, k3, b4, z5⟩
 have l6 := hB.size
 replace h1 := h1.more b4 (Nat.le_refl _)
 replace h2 := h2.more b4 (Nat.le_refl _)
 replace hB := Qe hB b4
 refine Ge (Qu rfl QV rfl) rfl rfl ?_
 rintro _ W7 ⟨rfl, k8, b9, z10⟩
 have n11 : w.heap.size ≠ W2.heap.size := Nat.ne_of_lt k3.lt
 have l12 := hB.size
 replace h1 := h1.more b9 (Nat.le_refl _)
 replace h2 := h2.more b9 (Nat.le_refl _)
 replace k3 := k3.below b9
 replace hB := Qe hB b9
 refine Pu rfl (Ni (hK1 (Sq fun K13 hK13 => (Sq fun K14 hK14 => (Rg (Va (Qn (o1 := 3) rfl XC rfl rfl) rfl rfl (Va (Qi rfl Yt rfl (k3.cell (k := 3) rfl)) rfl rfl ?_)))))))
 refine Pu rfl ?_
 refine WL.split 6 rfl (fun g15 => ?_) (fun g15 => ?_)
 .
  refine Of rfl (Of rfl (Of rfl (Pu rfl (Ni (hK14 (WC.condT rfl (Sq fun K16 hK16 => ?_)))))))
  refine Rg (Va (Qn (o1 := 3) rfl XC rfl rfl) rfl rfl ?_)
  refine WL.do (Qh (cs' := [s1, s2, .int .i64 Qd, .bool true]) (vs := [.bool true]) rfl UQ rfl rfl rfl (oC rfl Qk) k3 rfl (nB rfl) rfl) rfl ?_
  rintro _ W17 ⟨k19, o18⟩
  replace k8 := k8.other o18 n11.symm
  clear k3
  replace h1 := h1.only o18 (.tail _ (.head _))
  replace h2 := h2.only o18 (.tail _ (.head _))
  replace hB := o18.below hB l6
  refine Ni (hK16 (Sq fun K20 hK20 => (Rg (Va (Qg rfl Qf rfl k19.range rfl) rfl rfl ?_))))
  refine WL.do (Qh (cs' := [s1, s2, .int .i64 Qd, .bool true]) (vs := [s1, s2, .int .i64 Qd, .bool true]) rfl Qj rfl rfl rfl (oC h1.one (oC h2.one (oC rfl (oC rfl Qk)))) k8 rfl (nB rfl) rfl) rfl ?_
  rintro _ W21 ⟨k23, o22⟩
  clear k8
  replace hB := o22.below hB l12
  refine Pu rfl (Ni (hK20 ?_))
  exact WC.ret fun a_ ha_ => hQ (QO rfl (.agg rfl Qf k23.range rfl) (.tmp rfl) (by simp [Z4, *]) hB ha_)
 .
  replace g15 := ZY g15
  refine Va (Qn (o1 := 2) rfl XZ rfl rfl) rfl rfl (Va (Qi rfl Qv rfl (k3.cell (k := 2) rfl)) rfl rfl (Va (Zw rfl rfl rfl) rfl rfl (Pu rfl (Ni (hK14 ?_)))))
  refine WC.cond rfl (fun c24 => ?_) (fun c24 => ?_)
  .
   replace c24 := dT c24
   refine Sq fun K25 hK25 => (Rg (Va (Qn (o1 := 3) rfl XC rfl rfl) rfl rfl ?_))
   refine WL.do (Qh (cs' := [s1, s2, .int .i64 Qd, .bool true]) (vs := [.bool true]) rfl UQ rfl rfl rfl (oC rfl Qk) k3 rfl (nB rfl) rfl) rfl ?_
   rintro _ W26 ⟨k28, o27⟩
   replace k8 := k8.other o27 n11.symm
   clear k3
   replace h1 := h1.only o27 (.tail _ (.head _))
   replace h2 := h2.only o27 (.tail _ (.head _))
   replace hB := o27.below hB l6
   refine Ni (hK25 (Sq fun K29 hK29 => (Rg (Va (Qg rfl Qf rfl k28.range rfl) rfl rfl ?_))))
   refine WL.do (Qh (cs' := [s1, s2, .int .i64 Qd, .bool true]) (vs := [s1, s2, .int .i64 Qd, .bool true]) rfl Qj rfl rfl rfl (oC h1.one (oC h2.one (oC rfl (oC rfl Qk)))) k8 rfl (nB rfl) rfl) rfl ?_
   rintro _ W30 ⟨k32, o31⟩
   clear k8
   replace hB := o31.below hB l12
   refine Pu rfl (Ni (hK29 ?_))
   exact WC.ret fun a_ ha_ => hQ (QO rfl (.agg rfl Qf k32.range rfl) (.tmp rfl) (by simp [Z4, *]) hB ha_)
  .
   replace c24 := dF c24
   refine WC.skip (hK13 (Sq fun K33 hK33 => (Sq fun K34 hK34 => (Rg (Va (Qn (o1 := 2) rfl XZ rfl rfl) rfl rfl (Va (Qi rfl Qv rfl (k3.cell (k := 2) rfl)) rfl rfl (Va (XL rfl rfl rfl) rfl rfl ?_)))))))
   refine Ni (hK34 ?_)
   refine WC.cond rfl (fun c35 => ?_) (fun c35 => ?_)
   .
    replace c35 := dT c35
    refine Rg (Va (Qn (o1 := 2) rfl XZ rfl rfl) rfl rfl (Va (Qi rfl Qv rfl (k3.cell (k := 2) rfl)) rfl rfl (Va (Zm (r := Qd - 1) rfl rfl rfl (Qm (by omega))) rfl rfl (Va (Qn (o1 := 2) rfl XZ rfl rfl) rfl rfl ?_))))
    refine WL.do (Qh (cs' := [s1, s2, .int .i64 (Qd - 1), .bool Qc]) (vs := [.int .i64 (Qd - 1)]) rfl ZO rfl rfl rfl (oC rfl Qk) k3 rfl (nB rfl) rfl) rfl ?_
    rintro _ W36 ⟨k38, o37⟩
    replace k8 := k8.other o37 n11.symm
    clear k3
    replace h1 := h1.only o37 (.tail _ (.head _))
    replace h2 := h2.only o37 (.tail _ (.head _))
    replace hB := o37.below hB l6
    refine Ni (hK33 (Sq fun K39 hK39 => (Rg (Va (Qg rfl Qf rfl k38.range rfl) rfl rfl ?_))))
    refine WL.do (Qh (cs' := [s1, s2, .int .i64 (Qd - 1), .bool Qc]) (vs := [s1, s2, .int .i64 (Qd - 1), .bool Qc]) rfl Qj rfl rfl rfl (oC h1.one (oC h2.one (oC rfl (oC rfl Qk)))) k8 rfl (nB rfl) rfl) rfl ?_
    rintro _ W40 ⟨k42, o41⟩
    clear k8
    replace hB := o41.below hB l12
    refine Pu rfl (Ni (hK39 ?_))
    exact WC.ret fun a_ ha_ => hQ (QO rfl (.agg rfl Qf k42.range rfl) (.tmp rfl) (by simp [Z4, *]) hB ha_)
   .
    replace c35 := dF c35
    refine WC.skip (hK33 (Sq fun K43 hK43 => (Rg (Va (Qg rfl Qf rfl k3.range rfl) rfl rfl ?_))))
    refine WL.do (Qh (cs' := [s1, s2, .int .i64 Qd, .bool Qc]) (vs := [s1, s2, .int .i64 Qd, .bool Qc]) rfl Qj rfl rfl rfl (oC h1.one (oC h2.one (oC rfl (oC rfl Qk)))) k8 rfl (nB rfl) rfl) rfl ?_
    rintro _ W44 ⟨k46, o45⟩
    clear k8
    replace hB := o45.below hB l12
    refine Pu rfl (Ni (hK43 ?_))
    exact WC.ret fun a_ ha_ => hQ (QO rfl (.agg rfl Qf k46.range rfl) (.tmp rfl) (by simp [Z4, *]) hB ha_)

def UX (Qb : List (List Int)) (Qa : List (Int × List Int)) (a : Int) : List Int := match Zl Qa a Qa.length with
 | some z => z
 | none => Qb[a.toNat]?.getD []
theorem HM {L L' : List Nat} {w w' : World} {v v' : Value} {Qb : List (List Int)} {Qa : List (Int × List Int)} {a : Int} (h : QD 128 L w v (Qb.map Qr)) (h2 : QD 129 L' w' v' (Qa.map QG)) (h3 : 0 <= a) (h4 : a < Qb.length) : (UX Qb Qa a).length = 128 := by
  unfold UX
  split
  . rename_i z hz; exact Je h2 a _ z hz
  . obtain ⟨x, hx⟩ : ∃ x, Qb[a.toNat]? = some x := ⟨_, List.getElem?_eq_getElem (by omega)⟩
    rw [hx]
    exact Ed h hx
theorem GQ {Qb : List (List Int)} {Qa : List (Int × List Int)} {Qc : Bool} {a : Int} (h : QM Qb Qa = false \/ a < 0 \/ (Qb.length : Int) <= a) : Xn Qb Qa Qc a = (z0, 1) := by
 unfold Xn
 rcases h with h | h
 . rw [if_pos h]
 . rw [E9 h]; simp
theorem QaL {Qb : List (List Int)} {Qa : List (Int × List Int)} {Qc : Bool} {a : Int} (h : QM Qb Qa = true) (h1 : ¬ a < 0) (h2 : ¬ (Qb.length : Int) <= a) (h3 : Qc = true) : Xn Qb Qa Qc a = (z0, 9) := by
 unfold Xn
 rw [Jg h1 h2]; simp [h, h3]
theorem QaK {Qb : List (List Int)} {Qa : List (Int × List Int)} {Qc : Bool} {a : Int} (h : QM Qb Qa = true) (h1 : ¬ a < 0) (h2 : ¬ (Qb.length : Int) <= a) (h3 : ¬ Qc = true) : Xn Qb Qa Qc a = (UX Qb Qa a, 0) := by
 unfold Xn UX
 rw [Jg h1 h2]; simp [h, h3]
 cases Zl Qa a Qa.length <;> rfl
theorem Ku {Qb : List (List Int)} {Qa : List (Int × List Int)} {Qd : Int} {Qc : Bool} {a : Int} {z : List Int} (h : QM Qb Qa = false \/ a < 0 \/ (Qb.length : Int) <= a) : Q0 Qb Qa Qd Qc a z = ⟨Qb, Qa, Qd, Qc, 1⟩ := by
 unfold Q0
 rcases h with h | h
 . rw [if_pos h]
 . rw [E9 h]; simp
theorem EM {Qb : List (List Int)} {Qa : List (Int × List Int)} {Qd : Int} {Qc : Bool} {a : Int} {z : List Int} (h : QM Qb Qa = true) (h1 : ¬ a < 0) (h2 : ¬ (Qb.length : Int) <= a) (h3 : ¬ Qc = true) (h4 : (Qa.length : Int) = 4096) : Q0 Qb Qa Qd Qc a z = ⟨Qb, Qa, Qd, Qc, 10⟩ := by
 unfold Q0
 rw [Jg h1 h2, if_pos h4]; simp [h, h3]
theorem Gq {Qb : List (List Int)} {Qa : List (Int × List Int)} {Qd : Int} {Qc : Bool} {a : Int} {z : List Int} (h : QM Qb Qa = true) (h1 : ¬ a < 0) (h2 : ¬ (Qb.length : Int) <= a) (h3 : Qc = true \/ ¬ (Qa.length : Int) = 4096) (hs : (Z4 Qd Qc).2.2 = false) : Q0 Qb Qa Qd Qc a z = ⟨Qb, Qa, (Z4 Qd Qc).1, (Z4 Qd Qc).2.1, 9⟩ := by
  unfold Q0
  rw [Jg h1 h2]
  by_cases hd : Qc = true
  . simp [h, hd, Z4]
  . by_cases hf : Qd = 0
    . simp [h, hd, hf, Z4, Q8, h3.resolve_left hd]
    . exfalso; simp [Z4, hd, hf] at hs; split at hs <;> simp at hs
theorem Gp {Qb : List (List Int)} {Qa : List (Int × List Int)} {Qd : Int} {Qc : Bool} {a : Int} {z : List Int} (h : QM Qb Qa = true) (h1 : ¬ a < 0) (h2 : ¬ (Qb.length : Int) <= a) (h3 : Qc = true \/ ¬ (Qa.length : Int) = 4096) (hs : (Z4 Qd Qc).2.2 = true) : Q0 Qb Qa Qd Qc a z = ⟨Qb, Qa ++ [(a, z)], (Z4 Qd Qc).1, (Z4 Qd Qc).2.1, 0⟩ := by
  unfold Q0
  rw [Jg h1 h2]
  by_cases hd : Qc = true
  . simp [hd, Z4] at hs
  . by_cases hf : Qd = 0
    . simp [hf, Z4] at hs
    . by_cases hp : 0 < Qd <;> simp [h, hd, hf, hp, Z4, Q8, h3.resolve_left hd]
set_option maxHeartbeats 1000000 in
theorem QeV (Qb : List (List Int)) (Qa : List (Int × List Int)) (Qd : Int) (Qc : Bool) (s1 s2 : Value) (a : Int) (w : World) (L : List Nat) (hL : LL L w) (h1 : QD 128 L w s1 (Qb.map Qr)) (h2 : QD 129 L w s2 (Qa.map QG))  (hb1 : 0 <= a) (hb2 : a < Qb.length) : CV Tryd.prog 77 [.agg #[s1, s2, .int .i64 Qd, .bool Qc], .int .i64 a] w fun v W => v = .agg (Qr (UX Qb Qa a)).toArray := by
 refine QN (N := 33) (f := [(0, .agg #[s1, s2, .int .i64 Qd, .bool Qc]), (1, .int .i64 a)]) Tryd.func77 rfl rfl rfl rfl fun Q hQ hE => ?_
 have hB := Below.refl w.heap.size w
 have h1m : Qb.length <= maxLen := by have := h1.len; rwa [List.length_map] at this
 unfold maxLen at h1m
 have h2m : Qa.length <= maxLen := by have := h2.len; rwa [List.length_map] at this
 unfold maxLen at h2m
 refine Sq fun K1 hK1 => (Rg ?_)
 refine Ge (Xa rfl rfl rfl) rfl rfl ?_
 rintro _ W2 ⟨rfl, k3, b4, z5⟩
 have l6 := hB.size
 replace h1 := h1.more b4 (Nat.le_refl _)
 replace h2 := h2.more b4 (Nat.le_refl _)
 replace hB := Qe hB b4
 replace hL := LL.more hL z5
 refine Ge (Qu (cs := Qr z0) rfl ZE Yh) rfl rfl ?_
 rintro _ W7 ⟨rfl, k8, b9, z10⟩
 have l12 := hB.size
 replace h1 := h1.more b9 (Nat.le_refl _)
 replace h2 := h2.more b9 (Nat.le_refl _)
 replace k3 := k3.below b9
 replace hB := Qe hB b9
 replace hL := LL.more hL z10
 refine Ni (hK1 (Sq fun K13 hK13 => (Sq fun K14 hK14 => (Rg (Va (Qn (o1 := 1) rfl QJ rfl rfl) rfl rfl (Va (Qi rfl Xf rfl (k3.cell (k := 1) rfl)) rfl rfl (Va (QT rfl QY rfl h2) rfl rfl ?_)))))))
 refine Va (Zm (r := (Qa.length : Int) - 1) rfl rfl rfl (Qm (by omega))) rfl rfl (Pu rfl (Ni (hK14 (WC.block ?_))))
 refine WC.loop (fun (n : Nat) => [(1, .int .i64 a), (2, .pointer (some ⟨w.heap.size, 0, none⟩)), (4, .pointer (some ⟨W2.heap.size, 0, none⟩)), (5, .int .i64 ((n : Int) - 1))]) (fun (n : Nat) W => n <= Qa.length /\ Zl Qa a Qa.length = Zl Qa a n /\ Below w.heap.size w W /\ LL (W2.heap.size :: w.heap.size :: L) W /\ QD 128 (W2.heap.size :: w.heap.size :: L) W s1 (Qb.map Qr) /\ QD 129 (W2.heap.size :: w.heap.size :: L) W s2 (Qa.map QG) /\ Xc W w.heap.size [s1, s2, .int .i64 Qd, .bool Qc] /\ Xc W W2.heap.size (Qr z0)) (fun (n : Nat) => n) Qa.length (by repeat first | exact trivial | refine aR ?_ | refine aI (by omega) ?_) ⟨Nat.le_refl _, rfl, hB, hL, h1, h2, k3, k8⟩ ?_
 clear h1 h2 k3 k8 hB hL
 rintro K15 n W16 ⟨hi, hv, hB, hL, h1, h2, k3, k8⟩ hK15
 refine Sq fun K17 hK17 => (Sq fun K18 hK18 => (Rg (Pu rfl (Va (Yr rfl rfl rfl) rfl rfl (Ni (hK18 ?_))))))
 refine WC.cond rfl (fun c19 => ?_) (fun c19 => ?_)
 .
  replace c19 := dT c19
  refine WC.skip (hK17 (Sq fun K20 hK20 => (WC.block (Sq fun K21 hK21 => (Rg (Va (Qn (o1 := 1) rfl QJ rfl rfl) rfl rfl (Va (Qi rfl Xf rfl (k3.cell (k := 1) rfl)) rfl rfl ?_)))))))
  refine Pu rfl ?_
  obtain ⟨r22, e23⟩ : ∃ x, Qa[(n - 1)]? = some x := ⟨_, List.getElem?_eq_getElem (by omega)⟩
  have Lr22 := J1 h2 e23
  refine Ge (XH (n - 1) rfl QY rfl rfl h2 (by omega) (XG e23)) rfl rfl ?_
  rintro u24 _ ⟨rfl, p25⟩
  refine Ge (V1 1 rfl ZB rfl p25 (cs' := [.int .i64 r22.1]) (by simp [QG, List.take_of_length_le, Qo, Lr22]) (Nat.succ_pos _)) rfl rfl ?_
  rintro u26 _ ⟨rfl, p27⟩
  refine Va (Zn rfl Qv rfl p27) rfl rfl (Pu rfl (Va (Zw rfl rfl rfl) rfl rfl (Ni (hK21 ?_))))
  refine WC.cond rfl (fun c28 => ?_) (fun c28 => ?_)
  .
   replace c28 := dT c28
   refine Sq fun K29 hK29 => (Rg (Va (Qn (o1 := 1) rfl QJ rfl rfl) rfl rfl (Va (Qi rfl Xf rfl (k3.cell (k := 1) rfl)) rfl rfl (Pu rfl ?_))))
   refine Ge (XH (n - 1) rfl QY rfl rfl h2 (by omega) (XG e23)) rfl rfl ?_
   rintro u30 _ ⟨rfl, p31⟩
   refine Ge (V1 128 rfl Vc rfl p31 (cs' := (Qr r22.2)) (by simp [QG, List.take_of_length_le, Qo, Lr22]) (by simp [QG, Qo, Lr22])) rfl rfl ?_
   rintro u32 _ ⟨rfl, p33⟩
   refine Va (Zc rfl QF rfl p33 (by rw [Qo]; exact Lr22)) rfl rfl ?_
   refine WL.do (Qx (vs := (Qr r22.2)) rfl Q1 rfl rfl rfl (YU r22.2) k8 (by rw [Qo]; exact Lr22) (by rw [Qo]; exact Xy)) rfl ?_
   rintro _ W34 ⟨k36, o35⟩
   clear k8
   replace hB := o35.below hB l12
   refine Ni (hK29 ?_)
   exact WC.ret fun a_ ha_ => hQ (QI rfl (.agg rfl QF k36.range (by rw [Qo]; exact Lr22)) (by rw [show UX Qb Qa a = r22.2 from (by unfold UX; rw [hv, show n = (n - 1) + 1 by omega, G5 e23 c28])]) hB ha_)
  .
   replace c28 := dF c28
   refine WC.skip (hK20 (Rg (Pu rfl (Va (Zm (r := ((n : Int) - 1) - 1) rfl rfl rfl (Qm (by omega))) rfl rfl (Pu rfl (Ni ?_))))))
   exact hK15 (n - 1) ⟨(by omega), (by rw [hv, show n = (n - 1) + 1 by omega]; exact G4 e23 c28), hB, hL, h1, h2, k3, k8⟩ (by omega) (by repeat first | exact trivial | refine aR ?_ | refine aI (by omega) ?_)
 .
  replace c19 := dF c19
  refine WC.exit ?_
  refine hK13 (Sq fun K37 hK37 => (Rg (Va (Qn (o1 := 0) rfl QE rfl rfl) rfl rfl (Va (Qi rfl Q7 rfl (k3.cell (k := 0) rfl)) rfl rfl (Pu rfl ?_)))))
  obtain ⟨r38, e39⟩ : ∃ x, Qb[a.toNat]? = some x := ⟨_, List.getElem?_eq_getElem (by omega)⟩
  have Lr38 := Ed h1 e39
  refine Ge (XH a.toNat rfl QW rfl rfl h1 (by omega) (XG e39)) rfl rfl ?_
  rintro u40 _ ⟨rfl, p41⟩
  refine Va (Zc rfl QF rfl p41 (by rw [Qo]; exact Lr38)) rfl rfl ?_
  refine WL.do (Qx (vs := (Qr r38)) rfl Q1 rfl rfl rfl (YU r38) k8 (by rw [Qo]; exact Lr38) (by rw [Qo]; exact Xy)) rfl ?_
  rintro _ W42 ⟨k44, o43⟩
  clear k8
  replace hB := o43.below hB l12
  refine Ni (hK37 ?_)
  exact WC.ret fun a_ ha_ => hQ (QI rfl (.agg rfl QF k44.range (by rw [Qo]; exact Lr38)) (by rw [show UX Qb Qa a = r38 from (by unfold UX; rw [hv, show n = 0 by omega]; simp [Zl, e39])]) hB ha_)

set_option maxHeartbeats 1000000 in
theorem QdE (Qb : List (List Int)) (Qa : List (Int × List Int)) (Qd : Int) (Qc : Bool) (s1 s2 : Value) (a : Int) (w : World) (L : List Nat) (hL : LL L w) (h1 : QD 128 L w s1 (Qb.map Qr)) (h2 : QD 129 L w s2 (Qa.map QG)) : CV Tryd.prog 59 [.agg #[s1, s2, .int .i64 Qd, .bool Qc], .int .i64 a] w fun v W => v = .tuple #[.agg (Qr (Xn Qb Qa Qc a).1).toArray, .int .i64 (Xn Qb Qa Qc a).2] := by
 refine QN (N := 27) (f := [(0, .agg #[s1, s2, .int .i64 Qd, .bool Qc]), (1, .int .i64 a)]) Tryd.func59 rfl rfl rfl rfl fun Q hQ hE => ?_
 have hB := Below.refl w.heap.size w
 have h1m : Qb.length <= maxLen := by have := h1.len; rwa [List.length_map] at this
 unfold maxLen at h1m
 have h2m : Qa.length <= maxLen := by have := h2.len; rwa [List.length_map] at this
 unfold maxLen at h2m
 refine Sq fun K1 hK1 => (Rg ?_)
 refine Ge (Xa rfl rfl rfl) rfl rfl ?_
 rintro _ W2 ⟨rfl, k3, b4, z5⟩
 have l6 := hB.size
 replace h1 := h1.more b4 (Nat.le_refl _)
 replace h2 := h2.more b4 (Nat.le_refl _)
 replace hB := Qe hB b4
 replace hL := LL.more hL z5
 refine Ge (Qu (cs := Qr z0) rfl ZE Yh) rfl rfl ?_
 rintro _ W7 ⟨rfl, k8, b9, z10⟩
 have l12 := hB.size
 replace h1 := h1.more b9 (Nat.le_refl _)
 replace h2 := h2.more b9 (Nat.le_refl _)
 replace k3 := k3.below b9
 replace hB := Qe hB b9
 replace hL := LL.more hL z10
 refine Pu rfl (Ni (hK1 (Sq fun K13 hK13 => (Sq fun K14 hK14 => (Rg (Va (Qg rfl Qf rfl k3.range rfl) rfl rfl ?_))))))
 refine Ge (QQ rfl Tryd.func56 rfl rfl rfl (JY Qb Qa Qd Qc _ _ W7 _ hL h1 h2)) rfl rfl ?_
 rintro _ W16 ⟨rfl, b15⟩
 replace h1 := h1.below b15
 replace h2 := h2.below b15
 replace k3 := k3.below b15
 replace k8 := k8.below b15
 replace hB := Qe hB b15
 replace hL := LL.below hL b15
 refine Va (XU rfl rfl) rfl rfl (Pu rfl ?_)
 refine WL.split 9 rfl (fun g17 => ?_) (fun g17 => ?_)
 .
  replace g17 := Q4 g17
  refine Of rfl (Of rfl (Pu rfl (Pu rfl (Of rfl (Of rfl (Of rfl (Of rfl ?_)))))))
  refine Of rfl (Pu rfl (Ni (hK14 (WC.condT rfl (Sq fun K18 hK18 => (Rg (Va (QS rfl rfl UE) rfl rfl ?_)))))))
  refine WL.do (Qx (vs := (Qr z0)) rfl Q1 rfl rfl rfl (YU z0) k8 (by rw [Qo]; exact Xy) (by rw [Qo]; exact Xy)) rfl ?_
  rintro _ W19 ⟨k21, o20⟩
  clear k8
  replace hB := o20.below hB l12
  refine Pu rfl (Ni (hK18 ?_))
  exact WC.ret fun a_ ha_ => hQ (QO rfl (.agg rfl QF k21.range (by rw [Qo]; exact Xy)) (.tmp rfl) (by rw [GQ (by first | assumption | (simp_all; done) | omega)]) hB ha_)
 .
  replace g17 := Q2 g17
  refine Pu rfl (Va (Xe rfl rfl rfl) rfl rfl (Pu rfl (Pu rfl ?_)))
  refine WL.split 13 rfl (fun g22 => ?_) (fun g22 => ?_)
  .
   replace g22 := dT g22
   refine Of rfl (Of rfl (Of rfl (Of rfl (Of rfl (Pu rfl (Ni (hK14 ?_)))))))
   refine WC.condT rfl (Sq fun K23 hK23 => (Rg (Va (QS rfl rfl UE) rfl rfl ?_)))
   refine WL.do (Qx (vs := (Qr z0)) rfl Q1 rfl rfl rfl (YU z0) k8 (by rw [Qo]; exact Xy) (by rw [Qo]; exact Xy)) rfl ?_
   rintro _ W24 ⟨k26, o25⟩
   clear k8
   replace hB := o25.below hB l12
   refine Pu rfl (Ni (hK23 ?_))
   exact WC.ret fun a_ ha_ => hQ (QO rfl (.agg rfl QF k26.range (by rw [Qo]; exact Xy)) (.tmp rfl) (by rw [GQ (by first | assumption | (simp_all; done) | omega)]) hB ha_)
  .
   replace g22 := dF g22
   refine Pu rfl (Va (Qn (o1 := 0) rfl QE rfl rfl) rfl rfl (Va (Qi rfl Q7 rfl (k3.cell (k := 0) rfl)) rfl rfl (Va (QT rfl QW rfl h1) rfl rfl (Va (Yr rfl rfl rfl) rfl rfl (Pu rfl (Ni (hK14 ?_)))))))
   refine WC.cond rfl (fun c27 => ?_) (fun c27 => ?_)
   .
    replace c27 := dT c27
    refine Sq fun K28 hK28 => (Rg (Va (QS rfl rfl UE) rfl rfl ?_))
    refine WL.do (Qx (vs := (Qr z0)) rfl Q1 rfl rfl rfl (YU z0) k8 (by rw [Qo]; exact Xy) (by rw [Qo]; exact Xy)) rfl ?_
    rintro _ W29 ⟨k31, o30⟩
    clear k8
    replace hB := o30.below hB l12
    refine Pu rfl (Ni (hK28 ?_))
    exact WC.ret fun a_ ha_ => hQ (QO rfl (.agg rfl QF k31.range (by rw [Qo]; exact Xy)) (.tmp rfl) (by rw [GQ (by first | assumption | (simp_all; done) | omega)]) hB ha_)
   .
    replace c27 := dF c27
    refine WC.skip (hK13 (Sq fun K32 hK32 => (Sq fun K33 hK33 => (Rg (Va (Qn (o1 := 3) rfl XC rfl rfl) rfl rfl (Va (Qi rfl Yt rfl (k3.cell (k := 3) rfl)) rfl rfl (Ni ?_)))))))
    refine hK33 ?_
    refine WC.cond rfl (fun c34 => ?_) (fun c34 => ?_)
    .
     refine Sq fun K35 hK35 => (Rg (Va (QS rfl rfl UE) rfl rfl ?_))
     refine WL.do (Qx (vs := (Qr z0)) rfl Q1 rfl rfl rfl (YU z0) k8 (by rw [Qo]; exact Xy) (by rw [Qo]; exact Xy)) rfl ?_
     rintro _ W36 ⟨k38, o37⟩
     clear k8
     replace hB := o37.below hB l12
     refine Pu rfl (Ni (hK35 ?_))
     exact WC.ret fun a_ ha_ => hQ (QO rfl (.agg rfl QF k38.range (by rw [Qo]; exact Xy)) (.tmp rfl) (by rw [QaL (by first | assumption | (simp_all; done) | omega) (by first | assumption | (simp_all; done) | omega) (by first | assumption | (simp_all; done) | omega) (by first | assumption | (simp_all; done) | omega)]) hB ha_)
    .
     replace c34 := ZY c34
     refine WC.skip (hK32 (Sq fun K39 hK39 => (Rg (Va (Qg rfl Qf rfl k3.range rfl) rfl rfl (Pu rfl ?_)))))
     refine Ge (QQ rfl Tryd.func77 rfl rfl rfl (QeV Qb Qa Qd Qc _ _ a W16 _ hL h1 h2 (by omega) (by omega))) rfl rfl ?_
     rintro _ W41 ⟨rfl, b40⟩
     replace h1 := h1.below b40
     replace h2 := h2.below b40
     replace k8 := k8.below b40
     replace hB := Qe hB b40
     refine WL.do (Qx (vs := (Qr (UX Qb Qa a))) rfl Q1 rfl rfl rfl (YU (UX Qb Qa a)) k8 (by rw [Qo]; exact (HM h1 h2 (by omega) (by omega))) (by rw [Qo]; exact Xy)) rfl ?_
     rintro _ W42 ⟨k44, o43⟩
     clear k8
     replace h1 := h1.only o43 (.head _)
     replace h2 := h2.only o43 (.head _)
     replace hB := o43.below hB l12
     refine Pu rfl (Ni (hK39 ?_))
     exact WC.ret fun a_ ha_ => hQ (QO rfl (.agg rfl QF k44.range (by rw [Qo]; exact (HM h1 h2 (by omega) (by omega)))) (.tmp rfl) (by rw [QaK (by first | assumption | (simp_all; done) | omega) (by first | assumption | (simp_all; done) | omega) (by first | assumption | (simp_all; done) | omega) (by first | assumption | (simp_all; done) | omega)]) hB ha_)

set_option maxHeartbeats 1000000 in
theorem QbS (Qb : List (List Int)) (Qa : List (Int × List Int)) (Qd : Int) (Qc : Bool) (s1 s2 : Value) (a : Int) (z : List Int) (w : World) (L : List Nat) (hL : LL L w) (h1 : QD 128 L w s1 (Qb.map Qr)) (h2 : QD 129 L w s2 (Qa.map QG))  (hL0 : LL L w) (hfu : -9223372036854775808 <= Qd /\ Qd <= 9223372036854775807) (hz : z.length = 128) : CV Tryd.prog 66 [.agg #[s1, s2, .int .i64 Qd, .bool Qc], .int .i64 a, .agg (Qr z).toArray] w fun v W => ∃ s1' s2', v = .tuple #[.agg #[s1', s2', .int .i64 (Q0 Qb Qa Qd Qc a z).Qd, .bool (Q0 Qb Qa Qd Qc a z).Qc], .int .i64 (Q0 Qb Qa Qd Qc a z).err] /\ QD 128 L W s1' ((Q0 Qb Qa Qd Qc a z).Qb.map Qr) /\ QD 129 L W s2' ((Q0 Qb Qa Qd Qc a z).Qa.map QG) := by
 refine QN (N := 54) (f := [(0, .agg #[s1, s2, .int .i64 Qd, .bool Qc]), (1, .int .i64 a), (2, .agg (Qr z).toArray)]) Tryd.func66 rfl rfl rfl rfl fun Q hQ hE => ?_
 have hB := Below.refl w.heap.size w
 have h1m : Qb.length <= maxLen := by have := h1.len; rwa [List.length_map] at this
 unfold maxLen at h1m
 have h2m : Qa.length <= maxLen := by have := h2.len; rwa [List.length_map] at this
 unfold maxLen at h2m
 refine Sq fun K1 hK1 => (Rg ?_)
 refine Ge (Xa rfl rfl rfl) rfl rfl ?_
 rintro _ W2 ⟨rfl, k3, b4, z5⟩
 have l6 := hB.size
 replace h1 := h1.more b4 (Nat.le_refl _)
 replace h2 := h2.more b4 (Nat.le_refl _)
 replace hB := Qe hB b4
 replace hL := LL.more hL z5
 refine Ge (Xa (cs := (Qr z)) rfl rfl rfl) rfl rfl ?_
 rintro _ W7 ⟨rfl, k8, b9, z10⟩
 have l12 := hB.size
 replace h1 := h1.more b9 (Nat.le_refl _)
 replace h2 := h2.more b9 (Nat.le_refl _)
 replace k3 := k3.below b9
 replace hB := Qe hB b9
 replace hL := LL.more hL z10
 refine Ge (Qu rfl QV rfl) rfl rfl ?_
 rintro _ W13 ⟨rfl, k14, b15, z16⟩
 have l19 := hB.size
 replace h1 := h1.more b15 (Nat.le_refl _)
 replace h2 := h2.more b15 (Nat.le_refl _)
 replace k3 := k3.below b15
 replace k8 := k8.below b15
 replace hB := Qe hB b15
 replace hL := LL.more hL z16
 refine Pu rfl (Ni (hK1 (Sq fun K20 hK20 => (Sq fun K21 hK21 => (Rg (Va (Qg rfl Qf rfl k3.range rfl) rfl rfl ?_))))))
 refine Ge (QQ rfl Tryd.func56 rfl rfl rfl (JY Qb Qa Qd Qc _ _ W13 _ hL h1 h2)) rfl rfl ?_
 rintro _ W23 ⟨rfl, b22⟩
 replace h1 := h1.below b22
 replace h2 := h2.below b22
 replace k3 := k3.below b22
 replace k8 := k8.below b22
 replace k14 := k14.below b22
 replace hB := Qe hB b22
 replace hL := LL.below hL b22
 refine Va (XU rfl rfl) rfl rfl (Pu rfl ?_)
 refine WL.split 13 rfl (fun g24 => ?_) (fun g24 => ?_)
 .
  replace g24 := Q4 g24
  refine Of rfl (Of rfl (Pu rfl (Pu rfl (Of rfl (Of rfl (Of rfl (Of rfl ?_)))))))
  refine Of rfl (Pu rfl (Ni (hK21 (WC.condT rfl (Sq fun K25 hK25 => (Rg (Va (Qg rfl Qf rfl k3.range rfl) rfl rfl ?_)))))))
  refine WL.do (Qh (cs' := [s1, s2, .int .i64 Qd, .bool Qc]) (vs := [s1, s2, .int .i64 Qd, .bool Qc]) rfl Qj rfl rfl rfl (oC h1.one (oC h2.one (oC rfl (oC rfl Qk)))) k14 rfl (nB rfl) rfl) rfl ?_
  rintro _ W26 ⟨k28, o27⟩
  clear k14
  replace h1 := h1.only o27 (.head _)
  replace h2 := h2.only o27 (.head _)
  replace hB := o27.below hB l19
  refine Pu rfl (Ni (hK25 ?_))
  exact WC.ret fun a_ ha_ => hQ (QO rfl (.agg rfl Qf k28.range rfl) (.tmp rfl) (by rw [Ku (by first | assumption | (simp_all; done) | omega)]; exact ⟨_, _, rfl, (h1.less (fun x hx => (.tail _ (.tail _ (.tail _ hx))))), (h2.less (fun x hx => (.tail _ (.tail _ (.tail _ hx)))))⟩) hB ha_)
 .
  replace g24 := Q2 g24
  have hr := ZU g24; obtain ⟨hne, hsm, hlm, hrt⟩ := hr
  refine Pu rfl (Va (Xe rfl rfl rfl) rfl rfl (Pu rfl (Pu rfl ?_)))
  refine WL.split 17 rfl (fun g29 => ?_) (fun g29 => ?_)
  .
   replace g29 := dT g29
   refine Of rfl (Of rfl (Of rfl (Of rfl (Of rfl (Pu rfl (Ni (hK21 ?_)))))))
   refine WC.condT rfl (Sq fun K30 hK30 => (Rg (Va (Qg rfl Qf rfl k3.range rfl) rfl rfl ?_)))
   refine WL.do (Qh (cs' := [s1, s2, .int .i64 Qd, .bool Qc]) (vs := [s1, s2, .int .i64 Qd, .bool Qc]) rfl Qj rfl rfl rfl (oC h1.one (oC h2.one (oC rfl (oC rfl Qk)))) k14 rfl (nB rfl) rfl) rfl ?_
   rintro _ W31 ⟨k33, o32⟩
   clear k14
   replace h1 := h1.only o32 (.head _)
   replace h2 := h2.only o32 (.head _)
   replace hB := o32.below hB l19
   refine Pu rfl (Ni (hK30 ?_))
   exact WC.ret fun a_ ha_ => hQ (QO rfl (.agg rfl Qf k33.range rfl) (.tmp rfl) (by rw [Ku (by first | assumption | (simp_all; done) | omega)]; exact ⟨_, _, rfl, (h1.less (fun x hx => (.tail _ (.tail _ (.tail _ hx))))), (h2.less (fun x hx => (.tail _ (.tail _ (.tail _ hx)))))⟩) hB ha_)
  .
   replace g29 := dF g29
   refine Pu rfl (Va (Qn (o1 := 0) rfl QE rfl rfl) rfl rfl (Va (Qi rfl Q7 rfl (k3.cell (k := 0) rfl)) rfl rfl (Va (QT rfl QW rfl h1) rfl rfl (Va (Yr rfl rfl rfl) rfl rfl (Pu rfl (Ni (hK21 ?_)))))))
   refine WC.cond rfl (fun c34 => ?_) (fun c34 => ?_)
   .
    replace c34 := dT c34
    refine Sq fun K35 hK35 => (Rg (Va (Qg rfl Qf rfl k3.range rfl) rfl rfl ?_))
    refine WL.do (Qh (cs' := [s1, s2, .int .i64 Qd, .bool Qc]) (vs := [s1, s2, .int .i64 Qd, .bool Qc]) rfl Qj rfl rfl rfl (oC h1.one (oC h2.one (oC rfl (oC rfl Qk)))) k14 rfl (nB rfl) rfl) rfl ?_
    rintro _ W36 ⟨k38, o37⟩
    clear k14
    replace h1 := h1.only o37 (.head _)
    replace h2 := h2.only o37 (.head _)
    replace hB := o37.below hB l19
    refine Pu rfl (Ni (hK35 ?_))
    exact WC.ret fun a_ ha_ => hQ (QO rfl (.agg rfl Qf k38.range rfl) (.tmp rfl) (by rw [Ku (by first | assumption | (simp_all; done) | omega)]; exact ⟨_, _, rfl, (h1.less (fun x hx => (.tail _ (.tail _ (.tail _ hx))))), (h2.less (fun x hx => (.tail _ (.tail _ (.tail _ hx)))))⟩) hB ha_)
   .
    replace c34 := dF c34
    refine WC.skip (hK20 (Sq fun K39 hK39 => (Sq fun K40 hK40 => (Rg (Va (Qn (o1 := 3) rfl XC rfl rfl) rfl rfl (Va (Qi rfl Yt rfl (k3.cell (k := 3) rfl)) rfl rfl (Va (XU rfl rfl) rfl rfl ?_)))))))
    refine Pu rfl ?_
    refine WL.split 28 rfl (fun g41 => ?_) (fun g41 => ?_)
    .
     replace g41 := Q4 g41
     replace g41 := ZY g41
     refine Va (Qn (o1 := 1) rfl QJ rfl rfl) rfl rfl (Va (Qi rfl Xf rfl (k3.cell (k := 1) rfl)) rfl rfl (Va (QT rfl QY rfl h2) rfl rfl (Va (Zw rfl rfl rfl) rfl rfl (Pu rfl (Ni (hK40 ?_))))))
     refine WC.cond rfl (fun c42 => ?_) (fun c42 => ?_)
     .
      replace c42 := dT c42
      refine Sq fun K43 hK43 => (Rg (Va (Qg rfl Qf rfl k3.range rfl) rfl rfl ?_))
      refine WL.do (Qh (cs' := [s1, s2, .int .i64 Qd, .bool Qc]) (vs := [s1, s2, .int .i64 Qd, .bool Qc]) rfl Qj rfl rfl rfl (oC h1.one (oC h2.one (oC rfl (oC rfl Qk)))) k14 rfl (nB rfl) rfl) rfl ?_
      rintro _ W44 ⟨k46, o45⟩
      clear k14
      replace h1 := h1.only o45 (.head _)
      replace h2 := h2.only o45 (.head _)
      replace hB := o45.below hB l19
      refine Pu rfl (Ni (hK43 ?_))
      exact WC.ret fun a_ ha_ => hQ (QO rfl (.agg rfl Qf k46.range rfl) (.tmp rfl) (by rw [EM (by first | assumption | (simp_all; done) | omega) (by first | assumption | (simp_all; done) | omega) (by first | assumption | (simp_all; done) | omega) (by first | assumption | (simp_all; done) | omega) (by first | assumption | (simp_all; done) | omega)]; exact ⟨_, _, rfl, (h1.less (fun x hx => (.tail _ (.tail _ (.tail _ hx))))), (h2.less (fun x hx => (.tail _ (.tail _ (.tail _ hx)))))⟩) hB ha_)
     .
      replace c42 := dF c42
      refine WC.skip (hK39 (Sq fun K47 hK47 => (Rg (Va (Qg rfl Qf rfl k3.range rfl) rfl rfl ?_))))
      refine Ge (QQ rfl Tryd.func83 rfl rfl rfl (EU Qb Qa Qd Qc _ _ W23 _ hL h1 h2 hfu)) rfl rfl ?_
      rintro _ W49 ⟨rfl, b48⟩
      replace h1 := h1.below b48
      replace h2 := h2.below b48
      replace k8 := k8.below b48
      replace k14 := k14.below b48
      replace hB := Qe hB b48
      replace hL := LL.below hL b48
      refine Pu rfl (Pu rfl (Pu rfl ?_))
      refine Ge (Qu rfl QV rfl) rfl rfl ?_
      rintro _ W50 ⟨rfl, k51, b52, z53⟩
      have n55 : W2.heap.size ≠ W49.heap.size := Nat.ne_of_lt k8.lt
      have n56 : W7.heap.size ≠ W49.heap.size := Nat.ne_of_lt k14.lt
      have l57 := hB.size
      replace h1 := h1.more b52 (Nat.le_refl _)
      replace h2 := h2.more b52 (Nat.le_refl _)
      replace k8 := k8.below b52
      replace k14 := k14.below b52
      replace hB := Qe hB b52
      replace hL := LL.more hL z53
      refine WL.do (Qh (cs' := [s1, s2, .int .i64 ((Z4 Qd Qc).1), .bool ((Z4 Qd Qc).2.1)]) (vs := [s1, s2, .int .i64 ((Z4 Qd Qc).1), .bool ((Z4 Qd Qc).2.1)]) rfl Qj rfl rfl rfl (oC h1.one (oC h2.one (oC rfl (oC rfl Qk)))) k51 rfl (nB rfl) rfl) rfl ?_
      rintro _ W58 ⟨k60, o59⟩
      replace k8 := k8.other o59 n55
      replace k14 := k14.other o59 n56
      clear k51
      replace h1 := h1.only o59 (.head _)
      replace h2 := h2.only o59 (.head _)
      replace hB := o59.below hB l57
      replace hL := LL.only hL o59
      refine Pu rfl (Ni (hK47 (Sq fun K61 hK61 => (Sq fun K62 hK62 => (Rg (Pu rfl (Va (XU rfl rfl) rfl rfl ?_)))))))
      refine Ni (hK62 ?_)
      refine WC.cond rfl (fun c63 => ?_) (fun c63 => ?_)
      .
       replace c63 := Q4 c63
       refine Sq fun K64 hK64 => (Rg (Va (Qg rfl Qf rfl k60.range rfl) rfl rfl ?_))
       refine WL.do (Qh (cs' := [s1, s2, .int .i64 ((Z4 Qd Qc).1), .bool ((Z4 Qd Qc).2.1)]) (vs := [s1, s2, .int .i64 ((Z4 Qd Qc).1), .bool ((Z4 Qd Qc).2.1)]) rfl Qj rfl rfl rfl (oC h1.one (oC h2.one (oC rfl (oC rfl Qk)))) k14 rfl (nB rfl) rfl) rfl ?_
       rintro _ W65 ⟨k67, o66⟩
       clear k14
       replace h1 := h1.only o66 (.tail _ (.head _))
       replace h2 := h2.only o66 (.tail _ (.head _))
       replace hB := o66.below hB l19
       refine Pu rfl (Ni (hK64 ?_))
       exact WC.ret fun a_ ha_ => hQ (QO rfl (.agg rfl Qf k67.range rfl) (.tmp rfl) (by rw [Gq (by first | assumption | (simp_all; done) | omega) (by first | assumption | (simp_all; done) | omega) (by first | assumption | (simp_all; done) | omega) (by first | assumption | (simp_all; done) | omega) (by first | assumption | (simp_all; done) | omega)]; exact ⟨_, _, rfl, (h1.less (fun x hx => (.tail _ (.tail _ (.tail _ (.tail _ hx)))))), (h2.less (fun x hx => (.tail _ (.tail _ (.tail _ (.tail _ hx))))))⟩) hB ha_)
      .
       replace c63 := Q2 c63
       refine WC.skip (hK61 (Sq fun K68 hK68 => ?_))
       refine dM 8 [(some 43, .by fun u W => KZ 129 W58.heap.size u W), (some 44, .is (.pointer (some ⟨W49.heap.size, 1, none⟩))), (some 45, .is (s2)), (some 46, .by fun u W => Qbs 129 W58.heap.size (Qa.map QG) u W), (some 47, .is (.int .i64 a)), (some 48, .is (.agg (Qr z).toArray)), (some 49, .is (.agg (QG (a, z)).toArray)), (some 50, .by fun u W => QD 129 (W49.heap.size :: W7.heap.size :: W2.heap.size :: w.heap.size :: L) W u [(QG (a, z))])] [[], [], [1], [0, 2], [], [], [4, 5], [6]] ⟨fun _ _ _ hb h => h.below hb, fun _ _ _ hb h => h.below hb, fun _ _ _ hb h => h.below hb, trivial⟩ ?_ ?_
       .
        refine Dc (fun Wd hd => ?_) ?_
        .
         exact (Hb rfl Yw (by decide)).mono (fun v W' h => ⟨h.1, h.2.le hd.size⟩)
        refine Dc (fun Wd hd => ?_) ?_
        .
         exact Dd (Qn (o1 := 1) rfl QJ rfl rfl) rfl
        refine Dc (fun Wd hd => ?_) ?_
        .
         have k60 := k60.below hd
         exact Dd (Qi rfl Xf rfl (k60.cell (k := 1) rfl)) rfl
        refine Dc (fun Wd hd => ?_) ?_
        .
         intro u8_0 p8_0
         have h2 := h2.below hd
         exact (Dl rfl Yw rfl rfl p8_0 h2 (by simp; unfold maxLen; omega) (by simp; omega) hd.size).mono (fun v W' h => ⟨h.1, h.2⟩)
        refine Dc (fun Wd hd => ?_) ?_
        .
         exact Dd (Qt rfl rfl) rfl
        refine Dc (fun Wd hd => ?_) ?_
        .
         have k8 := k8.below hd
         exact Dd (Qg rfl QF rfl k8.range (by rw [Qo]; exact hz)) rfl
        refine Dc (fun Wd hd => ?_) ?_
        .
         exact Dd (QS rfl rfl (Dq _ _ hz)) rfl
        refine Dc (fun Wd hd => ?_) ?_
        .
         exact (ZP (r := (QG (a, z))) rfl Yw (by decide) (by decide) rfl rfl (by simp [QG, Qo, hz])).mono (fun v W' h => ⟨h.2.1, h.1.notin (LL.below hL hd) (Nat.le_refl _)⟩)
        exact trivial
       .
        intro W69 b70
        intro _ _
        rintro u8_3 ⟨B8_3, q8_3, k8_3⟩
        intro u8_7 p8_7
        have n73 : W7.heap.size ≠ B8_3 := Nat.ne_of_lt (Nat.lt_of_lt_of_le k14.lt q8_3)
        have n74 : W49.heap.size ≠ B8_3 := Nat.ne_of_lt (Nat.lt_of_lt_of_le k60.lt q8_3)
        replace h1 := h1.more b70 q8_3
        replace k14 := k14.below b70
        replace k60 := k60.below b70
        have l75 := Nat.le_trans hB.size q8_3
        replace hB := Qe hB b70
        refine Ge (Vx (rs := Qa.map QG) (news := [(QG (a, z))]) rfl Yw rfl rfl k8_3 p8_7 (fun r hr => by rw [List.mem_singleton.1 hr]; exact Qfn _) (by simp; unfold maxLen; omega) (by simp; omega)) rfl rfl ?_
        rintro u79 W76 ⟨B80, k77, g78⟩
        have n83 : W7.heap.size ≠ B80 := k14.grow_ne g78 n73
        have n84 : W49.heap.size ≠ B80 := k60.grow_ne g78 n74
        have l85 := g78.le l75 hB.size
        replace h1 := h1.grow' g78 (.head _)
        replace k14 := k14.grow g78 n73
        replace k60 := k60.grow g78 n74
        replace hB := g78.below hB l75 hB.size
        rw [show (Qa.map QG) ++ [QG (a, z)] = (Qa ++ [(a, z)]).map QG from by simp] at k77
        refine Va (Qn (o1 := 1) rfl QJ rfl rfl) rfl rfl ?_
        refine WL.do (Qh (cs' := [s1, u79, .int .i64 ((Z4 Qd Qc).1), .bool ((Z4 Qd Qc).2.1)]) (vs := [u79]) rfl YM rfl rfl (Ux k77.one) (oC k77.one Qk) k60 rfl (nB rfl) rfl) rfl ?_
        rintro _ W86 ⟨k88, o87⟩
        replace k14 := k14.other o87 n56
        replace k77 := k77.other o87 n84.symm
        clear k60
        replace h1 := h1.only o87 (.tail _ (.tail _ (.head _)))
        replace hB := o87.below hB l57
        refine Ni (hK68 (Sq fun K89 hK89 => (Rg (Va (Qg rfl Qf rfl k88.range rfl) rfl rfl ?_))))
        refine WL.do (Qh (cs' := [s1, u79, .int .i64 ((Z4 Qd Qc).1), .bool ((Z4 Qd Qc).2.1)]) (vs := [s1, u79, .int .i64 ((Z4 Qd Qc).1), .bool ((Z4 Qd Qc).2.1)]) rfl Qj rfl rfl rfl (oC h1.one (oC k77.one (oC rfl (oC rfl Qk)))) k14 rfl (nB rfl) rfl) rfl ?_
        rintro _ W90 ⟨k92, o91⟩
        replace k77 := k77.other o91 n83.symm
        clear k14
        replace h1 := h1.only o91 (.tail _ (.tail _ (.tail _ (.head _))))
        replace hB := o91.below hB l19
        refine Pu rfl (Ni (hK89 ?_))
        exact WC.ret fun a_ ha_ => hQ (QO rfl (.agg rfl Qf k92.range rfl) (.tmp rfl) (by rw [Gp (by first | assumption | (simp_all; done) | omega) (by first | assumption | (simp_all; done) | omega) (by first | assumption | (simp_all; done) | omega) (by first | assumption | (simp_all; done) | omega) (by first | assumption | (simp_all; done) | omega)]; exact ⟨_, _, rfl, (h1.less (fun x hx => (.tail _ (.tail _ (.tail _ (.tail _ (.tail _ (.tail _ hx)))))))), (k77.notin hL0 l85)⟩) hB ha_)
    .
     replace g41 := Q2 g41
     refine Of rfl (Of rfl (Of rfl (Of rfl (Pu rfl (Ni (hK40 (WC.condF rfl ?_)))))))
     refine WC.skip (hK39 (Sq fun K93 hK93 => (Rg (Va (Qg rfl Qf rfl k3.range rfl) rfl rfl ?_))))
     refine Ge (QQ rfl Tryd.func83 rfl rfl rfl (EU Qb Qa Qd Qc _ _ W23 _ hL h1 h2 hfu)) rfl rfl ?_
     rintro _ W95 ⟨rfl, b94⟩
     replace h1 := h1.below b94
     replace h2 := h2.below b94
     replace k8 := k8.below b94
     replace k14 := k14.below b94
     replace hB := Qe hB b94
     replace hL := LL.below hL b94
     refine Pu rfl (Pu rfl (Pu rfl ?_))
     refine Ge (Qu rfl QV rfl) rfl rfl ?_
     rintro _ W96 ⟨rfl, k97, b98, z99⟩
     have n101 : W2.heap.size ≠ W95.heap.size := Nat.ne_of_lt k8.lt
     have n102 : W7.heap.size ≠ W95.heap.size := Nat.ne_of_lt k14.lt
     have l103 := hB.size
     replace h1 := h1.more b98 (Nat.le_refl _)
     replace h2 := h2.more b98 (Nat.le_refl _)
     replace k8 := k8.below b98
     replace k14 := k14.below b98
     replace hB := Qe hB b98
     replace hL := LL.more hL z99
     refine WL.do (Qh (cs' := [s1, s2, .int .i64 ((Z4 Qd Qc).1), .bool ((Z4 Qd Qc).2.1)]) (vs := [s1, s2, .int .i64 ((Z4 Qd Qc).1), .bool ((Z4 Qd Qc).2.1)]) rfl Qj rfl rfl rfl (oC h1.one (oC h2.one (oC rfl (oC rfl Qk)))) k97 rfl (nB rfl) rfl) rfl ?_
     rintro _ W104 ⟨k106, o105⟩
     replace k8 := k8.other o105 n101
     replace k14 := k14.other o105 n102
     clear k97
     replace h1 := h1.only o105 (.head _)
     replace h2 := h2.only o105 (.head _)
     replace hB := o105.below hB l103
     replace hL := LL.only hL o105
     refine Pu rfl (Ni (hK93 (Sq fun K107 hK107 => (Sq fun K108 hK108 => (Rg (Pu rfl (Va (XU rfl rfl) rfl rfl ?_)))))))
     refine Ni (hK108 ?_)
     refine WC.cond rfl (fun c109 => ?_) (fun c109 => ?_)
     .
      replace c109 := Q4 c109
      refine Sq fun K110 hK110 => (Rg (Va (Qg rfl Qf rfl k106.range rfl) rfl rfl ?_))
      refine WL.do (Qh (cs' := [s1, s2, .int .i64 ((Z4 Qd Qc).1), .bool ((Z4 Qd Qc).2.1)]) (vs := [s1, s2, .int .i64 ((Z4 Qd Qc).1), .bool ((Z4 Qd Qc).2.1)]) rfl Qj rfl rfl rfl (oC h1.one (oC h2.one (oC rfl (oC rfl Qk)))) k14 rfl (nB rfl) rfl) rfl ?_
      rintro _ W111 ⟨k113, o112⟩
      clear k14
      replace h1 := h1.only o112 (.tail _ (.head _))
      replace h2 := h2.only o112 (.tail _ (.head _))
      replace hB := o112.below hB l19
      refine Pu rfl (Ni (hK110 ?_))
      exact WC.ret fun a_ ha_ => hQ (QO rfl (.agg rfl Qf k113.range rfl) (.tmp rfl) (by rw [Gq (by first | assumption | (simp_all; done) | omega) (by first | assumption | (simp_all; done) | omega) (by first | assumption | (simp_all; done) | omega) (by first | assumption | (simp_all; done) | omega) (by first | assumption | (simp_all; done) | omega)]; exact ⟨_, _, rfl, (h1.less (fun x hx => (.tail _ (.tail _ (.tail _ (.tail _ hx)))))), (h2.less (fun x hx => (.tail _ (.tail _ (.tail _ (.tail _ hx))))))⟩) hB ha_)
     .
      replace c109 := Q2 c109
      refine WC.skip (hK107 (Sq fun K114 hK114 => ?_))
      refine dM 8 [(some 43, .by fun u W => KZ 129 W104.heap.size u W), (some 44, .is (.pointer (some ⟨W95.heap.size, 1, none⟩))), (some 45, .is (s2)), (some 46, .by fun u W => Qbs 129 W104.heap.size (Qa.map QG) u W), (some 47, .is (.int .i64 a)), (some 48, .is (.agg (Qr z).toArray)), (some 49, .is (.agg (QG (a, z)).toArray)), (some 50, .by fun u W => QD 129 (W95.heap.size :: W7.heap.size :: W2.heap.size :: w.heap.size :: L) W u [(QG (a, z))])] [[], [], [1], [0, 2], [], [], [4, 5], [6]] ⟨fun _ _ _ hb h => h.below hb, fun _ _ _ hb h => h.below hb, fun _ _ _ hb h => h.below hb, trivial⟩ ?_ ?_
      .
       refine Dc (fun Wd hd => ?_) ?_
       .
        exact (Hb rfl Yw (by decide)).mono (fun v W' h => ⟨h.1, h.2.le hd.size⟩)
       refine Dc (fun Wd hd => ?_) ?_
       .
        exact Dd (Qn (o1 := 1) rfl QJ rfl rfl) rfl
       refine Dc (fun Wd hd => ?_) ?_
       .
        have k106 := k106.below hd
        exact Dd (Qi rfl Xf rfl (k106.cell (k := 1) rfl)) rfl
       refine Dc (fun Wd hd => ?_) ?_
       .
        intro u8_0 p8_0
        have h2 := h2.below hd
        exact (Dl rfl Yw rfl rfl p8_0 h2 (by simp; unfold maxLen; omega) (by simp; omega) hd.size).mono (fun v W' h => ⟨h.1, h.2⟩)
       refine Dc (fun Wd hd => ?_) ?_
       .
        exact Dd (Qt rfl rfl) rfl
       refine Dc (fun Wd hd => ?_) ?_
       .
        have k8 := k8.below hd
        exact Dd (Qg rfl QF rfl k8.range (by rw [Qo]; exact hz)) rfl
       refine Dc (fun Wd hd => ?_) ?_
       .
        exact Dd (QS rfl rfl (Dq _ _ hz)) rfl
       refine Dc (fun Wd hd => ?_) ?_
       .
        exact (ZP (r := (QG (a, z))) rfl Yw (by decide) (by decide) rfl rfl (by simp [QG, Qo, hz])).mono (fun v W' h => ⟨h.2.1, h.1.notin (LL.below hL hd) (Nat.le_refl _)⟩)
       exact trivial
      .
       intro W115 b116
       intro _ _
       rintro u8_3 ⟨B8_3, q8_3, k8_3⟩
       intro u8_7 p8_7
       have n119 : W7.heap.size ≠ B8_3 := Nat.ne_of_lt (Nat.lt_of_lt_of_le k14.lt q8_3)
       have n120 : W95.heap.size ≠ B8_3 := Nat.ne_of_lt (Nat.lt_of_lt_of_le k106.lt q8_3)
       replace h1 := h1.more b116 q8_3
       replace k14 := k14.below b116
       replace k106 := k106.below b116
       have l121 := Nat.le_trans hB.size q8_3
       replace hB := Qe hB b116
       refine Ge (Vx (rs := Qa.map QG) (news := [(QG (a, z))]) rfl Yw rfl rfl k8_3 p8_7 (fun r hr => by rw [List.mem_singleton.1 hr]; exact Qfn _) (by simp; unfold maxLen; omega) (by simp; omega)) rfl rfl ?_
       rintro u125 W122 ⟨B126, k123, g124⟩
       have n129 : W7.heap.size ≠ B126 := k14.grow_ne g124 n119
       have n130 : W95.heap.size ≠ B126 := k106.grow_ne g124 n120
       have l131 := g124.le l121 hB.size
       replace h1 := h1.grow' g124 (.head _)
       replace k14 := k14.grow g124 n119
       replace k106 := k106.grow g124 n120
       replace hB := g124.below hB l121 hB.size
       rw [show (Qa.map QG) ++ [QG (a, z)] = (Qa ++ [(a, z)]).map QG from by simp] at k123
       refine Va (Qn (o1 := 1) rfl QJ rfl rfl) rfl rfl ?_
       refine WL.do (Qh (cs' := [s1, u125, .int .i64 ((Z4 Qd Qc).1), .bool ((Z4 Qd Qc).2.1)]) (vs := [u125]) rfl YM rfl rfl (Ux k123.one) (oC k123.one Qk) k106 rfl (nB rfl) rfl) rfl ?_
       rintro _ W132 ⟨k134, o133⟩
       replace k14 := k14.other o133 n102
       replace k123 := k123.other o133 n130.symm
       clear k106
       replace h1 := h1.only o133 (.tail _ (.tail _ (.head _)))
       replace hB := o133.below hB l103
       refine Ni (hK114 (Sq fun K135 hK135 => (Rg (Va (Qg rfl Qf rfl k134.range rfl) rfl rfl ?_))))
       refine WL.do (Qh (cs' := [s1, u125, .int .i64 ((Z4 Qd Qc).1), .bool ((Z4 Qd Qc).2.1)]) (vs := [s1, u125, .int .i64 ((Z4 Qd Qc).1), .bool ((Z4 Qd Qc).2.1)]) rfl Qj rfl rfl rfl (oC h1.one (oC k123.one (oC rfl (oC rfl Qk)))) k14 rfl (nB rfl) rfl) rfl ?_
       rintro _ W136 ⟨k138, o137⟩
       replace k123 := k123.other o137 n129.symm
       clear k14
       replace h1 := h1.only o137 (.tail _ (.tail _ (.tail _ (.head _))))
       replace hB := o137.below hB l19
       refine Pu rfl (Ni (hK135 ?_))
       exact WC.ret fun a_ ha_ => hQ (QO rfl (.agg rfl Qf k138.range rfl) (.tmp rfl) (by rw [Gp (by first | assumption | (simp_all; done) | omega) (by first | assumption | (simp_all; done) | omega) (by first | assumption | (simp_all; done) | omega) (by first | assumption | (simp_all; done) | omega) (by first | assumption | (simp_all; done) | omega)]; exact ⟨_, _, rfl, (h1.less (fun x hx => (.tail _ (.tail _ (.tail _ (.tail _ (.tail _ (.tail _ hx)))))))), (k123.notin hL0 l131)⟩) hB ha_)

theorem QbG {Qb : List (List Int)} {Qa : List (Int × List Int)} {Qd : Int} {Qc : Bool} (h : QM Qb Qa = false) : Xz Qb Qa Qd Qc = ⟨Qb, Qa, Qd, Qc, 1⟩ := by unfold Xz; rw [if_pos h]
theorem Qaz {Qb : List (List Int)} {Qa : List (Int × List Int)} {Qd : Int} {Qc : Bool} (h : QM Qb Qa = true) (hs : (Z4 Qd Qc).2.2 = false) : Xz Qb Qa Qd Qc = ⟨Qb, Qa, (Z4 Qd Qc).1, (Z4 Qd Qc).2.1, 9⟩ := by
  unfold Xz
  by_cases hd : Qc = true
  . simp [h, hd, Z4]
  . by_cases hf : Qd = 0
    . simp [h, hd, hf, Z4, Q8]
    . exfalso; simp [Z4, hd, hf] at hs; split at hs <;> simp at hs
theorem Qay {Qb : List (List Int)} {Qa : List (Int × List Int)} {Qd : Int} {Qc : Bool} (h : QM Qb Qa = true) (hs : (Z4 Qd Qc).2.2 = true) : Xz Qb Qa Qd Qc = ⟨XW (fun _ _ z => z) Qa Qb 0, [], (Z4 Qd Qc).1, (Z4 Qd Qc).2.1, 0⟩ := by
  unfold Xz
  by_cases hd : Qc = true
  . simp [hd, Z4] at hs
  . by_cases hf : Qd = 0
    . simp [hf, Z4] at hs
    . by_cases hp : 0 < Qd <;> simp [h, hd, hf, hp, Z4, Q8]
theorem Fe {l : List (Int × List Int)} {cur : List (List Int)} {i : Nat} {p : Int × List Int} (h : l[i]? = some p) : XW (fun _ _ z => z) (l.drop i) cur i = XW (fun _ _ z => z) (l.drop (i + 1)) (cur.set p.1.toNat p.2) (i + 1) := by
 obtain ⟨hl, he⟩ := List.getElem?_eq_some_iff.1 h
 rw [List.drop_eq_getElem_cons hl, he, XW]
set_option maxHeartbeats 1000000 in
theorem QdD (Qb : List (List Int)) (Qa : List (Int × List Int)) (Qd : Int) (Qc : Bool) (s1 s2 : Value) (w : World) (L : List Nat) (hL : LL L w) (h1 : QD 128 L w s1 (Qb.map Qr)) (h2 : QD 129 L w s2 (Qa.map QG))  (hL0 : LL L w) (hfu : -9223372036854775808 <= Qd /\ Qd <= 9223372036854775807) : CV Tryd.prog 68 [.agg #[s1, s2, .int .i64 Qd, .bool Qc]] w fun v W => ∃ s1' s2', v = .tuple #[.agg #[s1', s2', .int .i64 (Xz Qb Qa Qd Qc).Qd, .bool (Xz Qb Qa Qd Qc).Qc], .int .i64 (Xz Qb Qa Qd Qc).err] /\ QD 128 L W s1' ((Xz Qb Qa Qd Qc).Qb.map Qr) /\ QD 129 L W s2' ((Xz Qb Qa Qd Qc).Qa.map QG) := by
 refine QN (N := 48) (f := [(0, .agg #[s1, s2, .int .i64 Qd, .bool Qc])]) Tryd.func68 rfl rfl rfl rfl fun Q hQ hE => ?_
 have hB := Below.refl w.heap.size w
 have h1m : Qb.length <= maxLen := by have := h1.len; rwa [List.length_map] at this
 unfold maxLen at h1m
 have h2m : Qa.length <= maxLen := by have := h2.len; rwa [List.length_map] at this
 unfold maxLen at h2m
 refine Sq fun K1 hK1 => (Rg ?_)
 refine Ge (Xa rfl rfl rfl) rfl rfl ?_
 rintro _ W2 ⟨rfl, k3, b4, z5⟩
 have l6 := hB.size
 replace h1 := h1.more b4 (Nat.le_refl _)
 replace h2 := h2.more b4 (Nat.le_refl _)
 replace hB := Qe hB b4
 replace hL := LL.more hL z5
 refine Ge (Qu rfl QV rfl) rfl rfl ?_
 rintro _ W7 ⟨rfl, k8, b9, z10⟩
 have l12 := hB.size
 replace h1 := h1.more b9 (Nat.le_refl _)
 replace h2 := h2.more b9 (Nat.le_refl _)
 replace k3 := k3.below b9
 replace hB := Qe hB b9
 replace hL := LL.more hL z10
 refine Pu rfl (Ni (hK1 (Sq fun K13 hK13 => (Sq fun K14 hK14 => (Rg (Va (Qg rfl Qf rfl k3.range rfl) rfl rfl ?_))))))
 refine Ge (QQ rfl Tryd.func56 rfl rfl rfl (JY Qb Qa Qd Qc _ _ W7 _ hL h1 h2)) rfl rfl ?_
 rintro _ W16 ⟨rfl, b15⟩
 replace h1 := h1.below b15
 replace h2 := h2.below b15
 replace k3 := k3.below b15
 replace k8 := k8.below b15
 replace hB := Qe hB b15
 replace hL := LL.below hL b15
 refine Va (XU rfl rfl) rfl rfl (Ni (hK14 ?_))
 refine WC.cond rfl (fun c17 => ?_) (fun c17 => ?_)
 .
  replace c17 := Q4 c17
  refine Sq fun K18 hK18 => (Rg (Va (Qg rfl Qf rfl k3.range rfl) rfl rfl ?_))
  refine WL.do (Qh (cs' := [s1, s2, .int .i64 Qd, .bool Qc]) (vs := [s1, s2, .int .i64 Qd, .bool Qc]) rfl Qj rfl rfl rfl (oC h1.one (oC h2.one (oC rfl (oC rfl Qk)))) k8 rfl (nB rfl) rfl) rfl ?_
  rintro _ W19 ⟨k21, o20⟩
  clear k8
  replace h1 := h1.only o20 (.head _)
  replace h2 := h2.only o20 (.head _)
  replace hB := o20.below hB l12
  refine Pu rfl (Ni (hK18 ?_))
  exact WC.ret fun a_ ha_ => hQ (QO rfl (.agg rfl Qf k21.range rfl) (.tmp rfl) (by rw [QbG (by first | assumption | (simp_all; done) | omega)]; exact ⟨_, _, rfl, (h1.less (fun x hx => (.tail _ (.tail _ hx)))), (h2.less (fun x hx => (.tail _ (.tail _ hx))))⟩) hB ha_)
 .
  replace c17 := Q2 c17
  have hr := ZU c17; obtain ⟨hne, hsm, hlm, hrt⟩ := hr
  refine WC.skip (hK13 (Sq fun K22 hK22 => (Rg (Va (Qg rfl Qf rfl k3.range rfl) rfl rfl ?_))))
  refine Ge (QQ rfl Tryd.func83 rfl rfl rfl (EU Qb Qa Qd Qc _ _ W16 _ hL h1 h2 hfu)) rfl rfl ?_
  rintro _ W24 ⟨rfl, b23⟩
  replace h1 := h1.below b23
  replace h2 := h2.below b23
  replace k3 := k3.below b23
  replace k8 := k8.below b23
  replace hB := Qe hB b23
  replace hL := LL.below hL b23
  refine Pu rfl (Pu rfl (Pu rfl ?_))
  refine Ge (Qu rfl QV rfl) rfl rfl ?_
  rintro _ W25 ⟨rfl, k26, b27, z28⟩
  have n29 : w.heap.size ≠ W24.heap.size := Nat.ne_of_lt k3.lt
  have n30 : W2.heap.size ≠ W24.heap.size := Nat.ne_of_lt k8.lt
  have l31 := hB.size
  replace h1 := h1.more b27 (Nat.le_refl _)
  replace h2 := h2.more b27 (Nat.le_refl _)
  replace k3 := k3.below b27
  replace k8 := k8.below b27
  replace hB := Qe hB b27
  replace hL := LL.more hL z28
  refine WL.do (Qh (cs' := [s1, s2, .int .i64 ((Z4 Qd Qc).1), .bool ((Z4 Qd Qc).2.1)]) (vs := [s1, s2, .int .i64 ((Z4 Qd Qc).1), .bool ((Z4 Qd Qc).2.1)]) rfl Qj rfl rfl rfl (oC h1.one (oC h2.one (oC rfl (oC rfl Qk)))) k26 rfl (nB rfl) rfl) rfl ?_
  rintro _ W32 ⟨k34, o33⟩
  replace k3 := k3.other o33 n29
  replace k8 := k8.other o33 n30
  clear k26
  replace h1 := h1.only o33 (.head _)
  replace h2 := h2.only o33 (.head _)
  replace hB := o33.below hB l31
  replace hL := LL.only hL o33
  refine Pu rfl (Ni (hK22 (Sq fun K35 hK35 => (Sq fun K36 hK36 => (Rg (Pu rfl (Va (XU rfl rfl) rfl rfl ?_)))))))
  refine Ni (hK36 ?_)
  refine WC.cond rfl (fun c37 => ?_) (fun c37 => ?_)
  .
   replace c37 := Q4 c37
   refine Sq fun K38 hK38 => (Rg (Va (Qg rfl Qf rfl k34.range rfl) rfl rfl ?_))
   refine WL.do (Qh (cs' := [s1, s2, .int .i64 ((Z4 Qd Qc).1), .bool ((Z4 Qd Qc).2.1)]) (vs := [s1, s2, .int .i64 ((Z4 Qd Qc).1), .bool ((Z4 Qd Qc).2.1)]) rfl Qj rfl rfl rfl (oC h1.one (oC h2.one (oC rfl (oC rfl Qk)))) k8 rfl (nB rfl) rfl) rfl ?_
   rintro _ W39 ⟨k41, o40⟩
   clear k8
   replace h1 := h1.only o40 (.tail _ (.head _))
   replace h2 := h2.only o40 (.tail _ (.head _))
   replace hB := o40.below hB l12
   refine Pu rfl (Ni (hK38 ?_))
   exact WC.ret fun a_ ha_ => hQ (QO rfl (.agg rfl Qf k41.range rfl) (.tmp rfl) (by rw [Qaz (by first | assumption | (simp_all; done) | omega) (by first | assumption | (simp_all; done) | omega)]; exact ⟨_, _, rfl, (h1.less (fun x hx => (.tail _ (.tail _ (.tail _ hx))))), (h2.less (fun x hx => (.tail _ (.tail _ (.tail _ hx)))))⟩) hB ha_)
  .
   replace c37 := Q2 c37
   refine WC.skip (hK35 (Sq fun K42 hK42 => (Rg ?_)))
   refine Ge (Gh rfl UT (by decide)) rfl rfl ?_
   rintro u47 W43 ⟨k44, b45, z46⟩
   have n48 : w.heap.size ≠ W32.heap.size := Nat.ne_of_lt k3.lt
   have n49 : W2.heap.size ≠ W32.heap.size := Nat.ne_of_lt k8.lt
   have n50 : W24.heap.size ≠ W32.heap.size := Nat.ne_of_lt k34.lt
   have l51 := hB.size
   replace h1 := h1.more b45 (Nat.le_refl _)
   replace h2 := h2.more b45 (Nat.le_refl _)
   replace k3 := k3.below b45
   replace k8 := k8.below b45
   replace k34 := k34.below b45
   replace hB := Qe hB b45
   replace hL := LL.more hL z46
   refine Va (Qn (o1 := 0) rfl QE rfl rfl) rfl rfl (Va (Qi rfl Q7 rfl (k34.cell (k := 0) rfl)) rfl rfl ?_)
   refine Ge (Vx (rs := []) (news := (Qb.map Qr)) rfl UT rfl rfl k44 h1 (D0 YU Qb) (by simp; unfold maxLen; omega) (by simp; omega)) rfl rfl ?_
   rintro u55 W52 ⟨B56, k53, g54⟩
   have n57 : w.heap.size ≠ B56 := k3.grow_ne g54 n48
   have n58 : W2.heap.size ≠ B56 := k8.grow_ne g54 n49
   have n59 : W24.heap.size ≠ B56 := k34.grow_ne g54 n50
   have l60 := g54.le l51 hB.size
   replace h1 := h1.grow' g54 (.head _)
   replace h2 := h2.grow' g54 (.head _)
   replace k3 := k3.grow g54 n48
   replace k8 := k8.grow g54 n49
   replace k34 := k34.grow g54 n50
   replace hB := g54.below hB l51 hB.size
   replace hL := LL.grow hL g54 k53.lt
   rw [List.nil_append] at k53
   refine Va (Qn (o1 := 0) rfl QE rfl rfl) rfl rfl ?_
   refine WL.do (Qh (cs' := [u55, s2, .int .i64 ((Z4 Qd Qc).1), .bool ((Z4 Qd Qc).2.1)]) (vs := [u55]) rfl JV rfl rfl (Ux k53.one) (oC k53.one Qk) k34 rfl (nB rfl) rfl) rfl ?_
   rintro _ W61 ⟨k63, o62⟩
   replace k3 := k3.other o62 n29
   replace k8 := k8.other o62 n30
   replace k53 := k53.other o62 n59.symm
   clear k34
   replace h1 := h1.only o62 (.tail _ (.tail _ (.head _)))
   replace h2 := h2.only o62 (.tail _ (.tail _ (.head _)))
   replace hB := o62.below hB l31
   replace hL := LL.only hL o62
   refine Ni (hK42 (Sq fun K64 hK64 => (Sq fun K65 hK65 => (Rg (Pu rfl (Ni (hK65 ?_)))))))
   refine WC.block ?_
   refine WC.loop2 (fun (i : Nat) (cur : List (List Int)) => [(1, .pointer (some ⟨w.heap.size, 0, none⟩)), (2, .pointer (some ⟨W2.heap.size, 0, none⟩)), (4, .pointer (some ⟨W24.heap.size, 0, none⟩)), (6, .int .i64 (i : Int))]) (fun (i : Nat) (cur : List (List Int)) W => i <= Qa.length /\ XW (fun _ _ z => z) Qa Qb 0 = XW (fun _ _ z => z) (Qa.drop i) cur i /\ cur.length = Qb.length /\ Below w.heap.size w W /\ LL (B56 :: W32.heap.size :: W24.heap.size :: W2.heap.size :: w.heap.size :: L) W /\ QD 128 (B56 :: W32.heap.size :: W24.heap.size :: W2.heap.size :: w.heap.size :: L) W s1 (Qb.map Qr) /\ QD 129 (B56 :: W32.heap.size :: W24.heap.size :: W2.heap.size :: w.heap.size :: L) W s2 (Qa.map QG) /\ Xc W w.heap.size [s1, s2, .int .i64 Qd, .bool Qc] /\ Xc W W2.heap.size [.slice none 0 0, .slice none 0 0, .int .i64 0, .bool false] /\ Xc W W24.heap.size [u55, s2, .int .i64 ((Z4 Qd Qc).1), .bool ((Z4 Qd Qc).2.1)] /\ Y5 128 W u55 (cur.map Qr) B56) (fun (i : Nat) (cur : List (List Int)) => Qa.length - i) 0 Qb (by repeat first | exact trivial | refine aR ?_ | refine aI (by omega) ?_) ⟨Nat.zero_le _, rfl, rfl, hB, hL, h1, h2, k3, k8, k63, k53⟩ ?_
   clear h1 h2 k3 k8 k63 k53 hB hL
   rintro K66 i cur W67 ⟨hi, hv, hc, hB, hL, h1, h2, k3, k8, k63, k53⟩ hK66
   refine Sq fun K68 hK68 => (Sq fun K69 hK69 => (Rg (Pu rfl (Va (Qn (o1 := 1) rfl QJ rfl rfl) rfl rfl (Va (Qi rfl Xf rfl (k63.cell (k := 1) rfl)) rfl rfl (Va (QT rfl QY rfl h2) rfl rfl (Va (Xe rfl rfl rfl) rfl rfl ?_)))))))
   refine Ni (hK69 ?_)
   refine WC.cond rfl (fun c70 => ?_) (fun c70 => ?_)
   .
    replace c70 := dT c70
    refine WC.skip (hK68 (Sq fun K71 hK71 => (WC.block ?_)))
    obtain ⟨r72, e73⟩ : ∃ x, Qa[i]? = some x := ⟨_, List.getElem?_eq_getElem (by omega)⟩
    have Lr72 := J1 h2 e73
    have Rr72 := hrt r72 (List.mem_of_getElem? e73)
    refine dM 14 [(some 31, .is (.pointer (some ⟨W24.heap.size, 0, none⟩))), (some 32, .is (u55)), (some 33, .is (.pointer (some ⟨W24.heap.size, 1, none⟩))), (some 34, .is (s2)), (some 35, .is (.int .i64 (i : Int))), (some 36, .by fun u W => JB (B56 :: W32.heap.size :: W24.heap.size :: W2.heap.size :: w.heap.size :: L) W u (QG r72)), (some 37, .by fun u W => JB (B56 :: W32.heap.size :: W24.heap.size :: W2.heap.size :: w.heap.size :: L) W u [.int .i64 r72.1]), (some 38, .is (.int .i64 r72.1)), (some 39, .is (.pointer (some ⟨W24.heap.size, 1, none⟩))), (some 40, .is (s2)), (some 41, .is (.int .i64 (i : Int))), (some 42, .by fun u W => JB (B56 :: W32.heap.size :: W24.heap.size :: W2.heap.size :: w.heap.size :: L) W u (QG r72)), (some 43, .by fun u W => JB (B56 :: W32.heap.size :: W24.heap.size :: W2.heap.size :: w.heap.size :: L) W u (Qr r72.2)), (some 44, .is (.agg (Qr r72.2).toArray))] [[], [0], [], [2], [], [3, 4], [5], [6], [], [8], [], [9, 10], [11], [12]] ⟨fun _ _ _ hb h => h.below hb, fun _ _ _ hb h => h.below hb, fun _ _ _ hb h => h.below hb, fun _ _ _ hb h => h.below hb, trivial⟩ ?_ ?_
    .
     refine Dc (fun Wd hd => ?_) ?_
     .
      exact Dd (Qn (o1 := 0) rfl QE rfl rfl) rfl
     refine Dc (fun Wd hd => ?_) ?_
     .
      have k63 := k63.below hd
      exact Dd (Qi rfl Q7 rfl (k63.cell (k := 0) rfl)) rfl
     refine Dc (fun Wd hd => ?_) ?_
     .
      exact Dd (Qn (o1 := 1) rfl QJ rfl rfl) rfl
     refine Dc (fun Wd hd => ?_) ?_
     .
      have k63 := k63.below hd
      exact Dd (Qi rfl Xf rfl (k63.cell (k := 1) rfl)) rfl
     refine Dc (fun Wd hd => ?_) ?_
     .
      exact Dd (Qt rfl rfl) rfl
     refine Dc (fun Wd hd => ?_) ?_
     .
      have h2 := h2.below hd
      exact (XH i rfl QY rfl rfl h2 (by omega) (XG e73)).mono (fun v W' h => ⟨by rw [<- h.1]; exact Below.refl _ _, by rw [<- h.1]; exact h.2⟩)
     refine Dc (fun Wd hd => ?_) ?_
     .
      intro u10_5 p10_5
      exact (V1 1 rfl ZB rfl p10_5 (cs' := [.int .i64 r72.1]) (by simp [QG, List.take_of_length_le, Qo, Lr72]) (Nat.succ_pos _)).mono (fun v W' h => ⟨by rw [<- h.1]; exact Below.refl _ _, by rw [<- h.1]; exact h.2⟩)
     refine Dc (fun Wd hd => ?_) ?_
     .
      intro u10_6 p10_6
      exact Dd (Zn rfl Qv rfl p10_6) rfl
     refine Dc (fun Wd hd => ?_) ?_
     .
      exact Dd (Qn (o1 := 1) rfl QJ rfl rfl) rfl
     refine Dc (fun Wd hd => ?_) ?_
     .
      have k63 := k63.below hd
      exact Dd (Qi rfl Xf rfl (k63.cell (k := 1) rfl)) rfl
     refine Dc (fun Wd hd => ?_) ?_
     .
      exact Dd (Qt rfl rfl) rfl
     refine Dc (fun Wd hd => ?_) ?_
     .
      have h2 := h2.below hd
      exact (XH i rfl QY rfl rfl h2 (by omega) (XG e73)).mono (fun v W' h => ⟨by rw [<- h.1]; exact Below.refl _ _, by rw [<- h.1]; exact h.2⟩)
     refine Dc (fun Wd hd => ?_) ?_
     .
      intro u10_11 p10_11
      exact (V1 128 rfl Vc rfl p10_11 (cs' := (Qr r72.2)) (by simp [QG, List.take_of_length_le, Qo, Lr72]) (by simp [QG, Qo, Lr72])).mono (fun v W' h => ⟨by rw [<- h.1]; exact Below.refl _ _, by rw [<- h.1]; exact h.2⟩)
     refine Dc (fun Wd hd => ?_) ?_
     .
      intro u10_12 p10_12
      exact Dd (Zc rfl QF rfl p10_12 (by rw [Qo]; exact Lr72)) rfl
     exact trivial
    .
     intro W74 b75
     intro u10_5 p10_5
     intro u10_6 p10_6
     intro u10_11 p10_11
     intro u10_12 p10_12
     replace h1 := h1.below b75
     replace h2 := h2.below b75
     replace k3 := k3.below b75
     replace k8 := k8.below b75
     replace k63 := k63.below b75
     replace k53 := k53.below b75
     replace hB := Qe hB b75
     replace hL := LL.below hL b75
     refine Va (UC r72.1.toNat rfl QW rfl rfl k53 (by omega) (by rw [List.length_map]; omega) rfl) rfl rfl ?_
     refine WL.do (HW (r := (Qr r72.2)) rfl Q1 rfl rfl rfl (YU r72.2) k53 rfl (by rw [List.length_map]; omega) (by rw [Qo]; exact Lr72)) rfl ?_
     rintro _ W76 ⟨k78, o77⟩
     replace k3 := k3.other o77 n57
     replace k8 := k8.other o77 n58
     replace k63 := k63.other o77 n59
     clear k53
     replace h1 := h1.only o77 (.head _)
     replace h2 := h2.only o77 (.head _)
     replace hB := o77.below hB l60
     replace hL := LL.only hL o77
     rw [<- List.map_set] at k78
     refine Ni (hK71 (Rg (Pu rfl (Va (QR (r := (i : Int) + 1) rfl rfl rfl (Qm (by omega))) rfl rfl (Pu rfl (Ni ?_))))))
     exact hK66 (i + 1) (cur.set r72.1.toNat r72.2) ⟨(by omega), (by rw [hv]; exact Fe e73), (by rw [List.length_set]; exact hc), hB, hL, h1, h2, k3, k8, k63, k78⟩ (by omega) (by repeat first | exact trivial | refine aR ?_ | refine aI (by omega) ?_)
   .
    replace c70 := dF c70
    refine WC.exit ?_
    refine hK64 (Sq fun K79 hK79 => (Rg (Va (Qn (o1 := 1) rfl QJ rfl rfl) rfl rfl ?_)))
    refine WL.do (Qh (cs' := [u55, .slice none 0 0, .int .i64 ((Z4 Qd Qc).1), .bool ((Z4 Qd Qc).2.1)]) (vs := [.slice none 0 0]) rfl YM rfl rfl rfl (oC rfl Qk) k63 rfl (nB rfl) rfl) rfl ?_
    rintro _ W80 ⟨k82, o81⟩
    replace k8 := k8.other o81 n30
    replace k53 := k53.other o81 n59.symm
    clear k63
    replace hB := o81.below hB l31
    refine Ni (hK79 (Sq fun K83 hK83 => (Rg (Va (Qg rfl Qf rfl k82.range rfl) rfl rfl ?_))))
    refine WL.do (Qh (cs' := [u55, .slice none 0 0, .int .i64 ((Z4 Qd Qc).1), .bool ((Z4 Qd Qc).2.1)]) (vs := [u55, .slice none 0 0, .int .i64 ((Z4 Qd Qc).1), .bool ((Z4 Qd Qc).2.1)]) rfl Qj rfl rfl rfl (oC k53.one (oC rfl (oC rfl (oC rfl Qk)))) k8 rfl (nB rfl) rfl) rfl ?_
    rintro _ W84 ⟨k86, o85⟩
    replace k53 := k53.other o85 n58.symm
    clear k8
    replace hB := o85.below hB l12
    refine Pu rfl (Ni (hK83 ?_))
    exact WC.ret fun a_ ha_ => hQ (QO rfl (.agg rfl Qf k86.range rfl) (.tmp rfl) (by rw [Qay (by first | assumption | (simp_all; done) | omega) (by first | assumption | (simp_all; done) | omega), hv, GF (by omega)]; exact ⟨_, _, rfl, (k53.notin hL0 l60), (QD.nil (by decide))⟩) hB ha_)

theorem Jb {a : List Int} {n m k : Nat} {x : Int} (hk : a.length = k) (hn : n = m + 1) : (Qr (a ++ zr n)).take k ++ ([Value.int .u8 x] ++ (Qr (a ++ zr n)).drop (k + 1)) = Qr ((a ++ [x]) ++ zr m) := by subst hn; exact EX hk
theorem Qcx {n : Nat} {T st : List Int} {i : Nat} (hT : T.length = n) (hs : st.length = n) (hi : i < n) : (T.take i ++ st.drop i).set i (QX T i) = T.take (i + 1) ++ st.drop (i + 1) := by
 have h1 : (T.take i).length = i := by rw [List.length_take]; omega
 rw [List.set_append, if_neg (by omega), h1, Nat.sub_self]
 rw [show st.drop i = st[i] :: st.drop (i + 1) from List.drop_eq_getElem_cons (by omega)]
 rw [List.set_cons_zero, YY T i (by omega), List.append_assoc]
 rfl
theorem Ep {n : Nat} {T st : List Int} {i : Nat} (hT : T.length = n) (hs : st.length = n) (hi : i <= n) : (T.take i ++ st.drop i).length = n := by
 rw [List.length_append, List.length_take, List.length_drop, hT, hs]
 omega
theorem GO : (List.replicate 32 (0 : Int)).length = 32 := List.length_replicate ..
theorem Hk : (Value.agg (Array.replicate 32 (Value.int .u8 0))).cells.toList = Qr (List.replicate 32 0) := by simp [Value.cells, Qr]
set_option maxHeartbeats 1000000 in
theorem F5 (D : List Int) (sv : Value) (w : World) (L : List Nat) (hL : LL L w) (h1 : QD 1 L w sv (D.map e8)) (hT : Vr L w)  (hDm : D.length <= 10000) (hDb : ZK D) : CV Tryd.prog 84 [sv] w fun v W => v = .agg (Qr (XK D)).toArray := by
 refine QN (N := 19) (f := [(0, sv)]) Tryd.func84 rfl rfl rfl rfl fun Q hQ hE => ?_
 have hB := Below.refl w.heap.size w
 have h1m : D.length <= maxLen := by have := h1.len; rwa [List.length_map] at this
 unfold maxLen at h1m
 refine Sq fun K1 hK1 => (Rg ?_)
 refine Ge (Qu (cs := Qr (List.replicate 32 0)) rfl VV Hk) rfl rfl ?_
 rintro _ W2 ⟨rfl, k3, b4, z5⟩
 have l6 := hB.size
 replace h1 := h1.more b4 (Nat.le_refl _)
 replace hT := hT.more b4 (Nat.le_refl _)
 replace hB := Qe hB b4
 replace hL := LL.more hL z5
 refine Ni (hK1 (Sq fun K7 hK7 => (Rg ?_)))
 refine Ge (Qu (cs := Qr (List.replicate 32 0)) rfl VV Hk) rfl rfl ?_
 rintro _ W8 ⟨rfl, k9, b10, z11⟩
 have n12 : w.heap.size ≠ W2.heap.size := Nat.ne_of_lt k3.lt
 have l13 := hB.size
 replace h1 := h1.more b10 (Nat.le_refl _)
 replace hT := hT.more b10 (Nat.le_refl _)
 replace k3 := k3.below b10
 replace hB := Qe hB b10
 replace hL := LL.more hL z11
 refine Ni (hK7 (Sq fun K14 hK14 => (Rg (Pu rfl ?_))))
 refine Ge (QQ rfl Tryd.func94 rfl rfl rfl (E1 D _ W8 _ hL h1 hT hDm hDb)) rfl rfl ?_
 rintro u17 W20 ⟨j18, b19⟩
 replace h1 := h1.below b19
 replace hT := hT.below b19
 replace k3 := k3.below b19
 replace k9 := k9.below b19
 replace hB := Qe hB b19
 replace hL := LL.below hL b19
 refine Pu rfl (Ni (hK14 (Sq fun K21 hK21 => (Sq fun K22 hK22 => (Rg (Pu rfl (Ni ?_)))))))
 refine hK22 (WC.block ?_)
 have hsm : (XK D).length = 32 := by rw [GB]; exact GA _
 have hv1 : QD 1 (W2.heap.size :: w.heap.size :: L) W20 u17 ((XK D).map e8) := j18
 replace k9 : Xc W20 W2.heap.size (Qr ((XK D).take 0 ++ (List.replicate 32 (0 : Int)).drop 0)) := k9
 refine WC.loop (fun (i : Nat) => [(2, .pointer (some ⟨w.heap.size, 0, none⟩)), (3, .pointer (some ⟨W2.heap.size, 0, none⟩)), (4, u17), (5, .int .i64 (i : Int))]) (fun (i : Nat) W => i <= 32 /\ Below w.heap.size w W /\ LL (W2.heap.size :: w.heap.size :: L) W /\ QD 1 (W2.heap.size :: w.heap.size :: L) W sv (D.map e8) /\ Vr (W2.heap.size :: w.heap.size :: L) W /\ QD 1 (W2.heap.size :: w.heap.size :: L) W u17 ((XK D).map e8) /\ Xc W w.heap.size (Qr (List.replicate 32 0)) /\ Xc W W2.heap.size (Qr ((XK D).take i ++ (List.replicate 32 (0 : Int)).drop i))) (fun (i : Nat) => 32 - i) 0 (by repeat first | exact trivial | refine aR ?_ | refine aI (by omega) ?_) ⟨(by decide), hB, hL, h1, hT, j18, k3, k9⟩ ?_
 clear h1 hT j18 k3 k9 hB hL
 rintro K23 i W24 ⟨hi, hB, hL, h1, hT, j18, k3, k9⟩ hK23
 refine Sq fun K25 hK25 => (Sq fun K26 hK26 => (Rg (Pu rfl (Va (Xe rfl rfl rfl) rfl rfl (Ni (hK26 ?_))))))
 refine WC.cond rfl (fun c27 => ?_) (fun c27 => ?_)
 .
  replace c27 := dT c27
  refine WC.skip (hK25 (Sq fun K28 hK28 => (WC.block ?_)))
  have esm : (XK D)[i]? = some (QX (XK D) i) := EG (by omega)
  refine Rg (Pu rfl (Pu rfl (Pu rfl ?_)))
  refine Ge (XH i rfl QH rfl rfl j18 (by omega) (Qao esm)) rfl rfl ?_
  rintro u29 _ ⟨rfl, p30⟩
  refine Va (Zn rfl X1 rfl p30) rfl rfl (Va (QU (o1 := i) rfl Tryd.underlying132 QA rfl rfl (by omega) (by first | (simp; done) | omega)) rfl rfl ?_)
  refine WL.do (Qh (cs' := Qr (((XK D).take i ++ (List.replicate 32 (0 : Int)).drop i).set i (QX (XK D) i))) (vs := [.int .u8 (QX (XK D) i)]) rfl QA rfl rfl rfl (oC rfl Qk) k9 rfl (by rw [Qo, show ((XK D).take i ++ (List.replicate 32 (0 : Int)).drop i).length = 32 from (Ep hsm GO hi)]; exact (by omega)) (QfF (by rw [show ((XK D).take i ++ (List.replicate 32 (0 : Int)).drop i).length = 32 from (Ep hsm GO hi)]; exact (by omega)))) rfl ?_
  rintro _ W31 ⟨k33, o32⟩
  replace k3 := k3.other o32 n12
  clear k9
  replace h1 := h1.only o32 (.head _)
  replace hT := hT.only o32 (.head _)
  replace j18 := j18.only o32 (.head _)
  replace hB := o32.below hB l13
  replace hL := LL.only hL o32
  refine Ni (hK28 (Rg (Pu rfl (Va (QR (r := (i : Int) + 1) rfl rfl rfl (Qm (by omega))) rfl rfl (Pu rfl (Ni ?_))))))
  rw [Qcx hsm GO (by omega)] at k33
  exact hK23 (i + 1) ⟨(by omega), hB, hL, h1, hT, j18, k3, k33⟩ (by omega) (by repeat first | exact trivial | refine aR ?_ | refine aI (by omega) ?_)
 .
  replace c27 := dF c27
  refine WC.exit ?_
  refine hK21 (Sq fun K34 hK34 => ?_)
  have hie : i = 32 := by omega
  subst hie
  replace k9 : Xc W24 W2.heap.size (Qr (XK D)) := by have e : (XK D).take 32 ++ (List.replicate 32 (0 : Int)).drop 32 = (XK D) := (by rw [List.take_of_length_le (by rw [hsm]; decide), List.drop_eq_nil_of_le (by rw [GO]; decide), List.append_nil]); rw [e] at k9; exact k9
  refine Rg (Va (Qg rfl Jv rfl k9.range (by rw [Qo]; exact hsm)) rfl rfl ?_)
  refine WL.do (Qx (vs := (Qr (XK D))) rfl VG rfl rfl rfl (YU (XK D)) k3 (by rw [Qo]; exact hsm) (by rw [Qo]; exact GO)) rfl ?_
  rintro _ W35 ⟨k37, o36⟩
  clear k3
  replace hB := o36.below hB l6
  refine Ni (hK34 ?_)
  exact WC.ret fun a_ ha_ => hQ (QI rfl (.agg rfl Jv k37.range (by rw [Qo]; exact hsm)) rfl hB ha_)

set_option maxHeartbeats 1000000 in
theorem DC (p : Pg) (dv : Value) (w : World) (L : List Nat) (hL : LL L w) (h1 : QD 1 L w dv (Vw p.dat))  (hby : Z0 p.dat) (hdl : p.dat.length <= 100) (hmk : 0 <= p.mks /\ p.mks <= 255) (hR : U5 w) : CV Tryd.prog 67 [.agg #[.int .i64 p.gen, .int .i64 p.idx, .int .u8 p.mks, dv]] w fun v W => v = .agg (Qr (Xk p)).toArray := by
 have hmk2 : p.mks % 256 = p.mks := by omega
 refine QN (N := 72) (f := [(0, .agg #[.int .i64 p.gen, .int .i64 p.idx, .int .u8 p.mks, dv])]) Tryd.func67 rfl rfl rfl rfl fun Q hQ hE => ?_
 have hB := Below.refl w.heap.size w
 refine Sq fun K1 hK1 => (Rg ?_)
 refine Ge (Xa rfl rfl rfl) rfl rfl ?_
 rintro _ W2 ⟨rfl, k3, b4, z5⟩
 have l6 := hB.size
 replace h1 := h1.more b4 (Nat.le_refl _)
 replace hB := Qe hB b4
 replace hL := LL.more hL z5
 refine Ge (Qu (cs := Qr z0) rfl ZE Yh) rfl rfl ?_
 rintro _ W7 ⟨rfl, k8, b9, z10⟩
 have l12 := hB.size
 replace h1 := h1.more b9 (Nat.le_refl _)
 replace k3 := k3.below b9
 replace hB := Qe hB b9
 replace hL := LL.more hL z10
 refine Ni (hK1 (Sq fun K13 hK13 => (Rg ?_)))
 refine Ge (Qu (cs := Qr z0) rfl ZE Yh) rfl rfl ?_
 rintro _ W14 ⟨rfl, k15, b16, z17⟩
 have n18 : w.heap.size ≠ W7.heap.size := Nat.ne_of_lt k3.lt
 have n19 : W2.heap.size ≠ W7.heap.size := Nat.ne_of_lt k8.lt
 have l20 := hB.size
 replace h1 := h1.more b16 (Nat.le_refl _)
 replace k3 := k3.below b16
 replace k8 := k8.below b16
 replace hB := Qe hB b16
 replace hL := LL.more hL z17
 refine Ni (hK13 (Sq fun K21 hK21 => (Sq fun K22 hK22 => ?_)))
 replace k15 : Xc W14 W7.heap.size (Qr (ZG 0 p.gen ++ zr (128 - 0))) := k15
 refine Rg (Pu rfl (Ni (hK22 (WC.block ?_))))
 refine WC.loop (fun (i : Nat) => [(1, .pointer (some ⟨w.heap.size, 0, none⟩)), (2, .pointer (some ⟨W2.heap.size, 0, none⟩)), (3, .pointer (some ⟨W7.heap.size, 0, none⟩)), (4, .int .i64 (i : Int))]) (fun (i : Nat) W => i <= 8 /\ Below w.heap.size w W /\ LL (W7.heap.size :: W2.heap.size :: w.heap.size :: L) W /\ QD 1 (W7.heap.size :: W2.heap.size :: w.heap.size :: L) W dv (Vw p.dat) /\ Xc W w.heap.size [.int .i64 p.gen, .int .i64 p.idx, .int .u8 p.mks, dv] /\ Xc W W2.heap.size (Qr z0) /\ Xc W W7.heap.size (Qr (ZG i p.gen ++ zr (128 - i)))) (fun (i : Nat) => 8 - i) 0 (by repeat first | exact trivial | refine aR ?_ | refine aI (by omega) ?_) ⟨(by decide), hB, hL, h1, k3, k8, k15⟩ ?_
 clear h1 k3 k8 k15 hB hL
 rintro K23 i W24 ⟨hi, hB, hL, h1, k3, k8, k15⟩ hK23
 refine Sq fun K25 hK25 => (Sq fun K26 hK26 => (Rg (Pu rfl (Va (Xe rfl rfl rfl) rfl rfl (Ni (hK26 ?_))))))
 refine WC.cond rfl (fun c27 => ?_) (fun c27 => ?_)
 .
  replace c27 := dT c27
  refine WC.skip (hK25 (Sq fun K28 hK28 => (WC.block (Rg (Pu rfl (Va (Qn (o1 := 0) rfl Z7 rfl rfl) rfl rfl (Va (Qi rfl Qv rfl (k3.cell (k := 0) rfl)) rfl rfl ?_)))))))
  refine Pu rfl (Va (VO (r := 8 * (i : Int)) rfl rfl rfl (by rw [Qm (by omega)])) rfl rfl (Va (XP (r := 8 * (i : Int)) rfl Tryd.underlying3 Tryd.underlying105 rfl (Uq (by omega))) rfl rfl (Va (Jm (r := p.gen / 2 ^ (8 * i)) rfl rfl rfl (by omega) (by show _ <= (64 : Int); omega) (by rw [show (8 * (i : Int)).toNat = 8 * i by omega])) rfl rfl (Va (XP (r := p.gen / 2 ^ (8 * i) % 256) rfl Tryd.underlying3 Tryd.underlying5 rfl (Js _)) rfl rfl (Va (QU (o1 := i) rfl Tryd.underlying75 QA rfl rfl (by omega) (by omega)) rfl rfl ?_)))))
  refine WL.do (Qh (cs' := Qr ((ZG i p.gen ++ [p.gen / 2 ^ (8 * i) % 256]) ++ zr (127 - i))) (vs := [.int .u8 (p.gen / 2 ^ (8 * i) % 256)]) rfl QA rfl rfl rfl (oC rfl Qk) k15 rfl (by rw [Qo, List.length_append, List.length_replicate, (Xp _ _)]; omega) (Jb (Xp _ _) (by omega))) rfl ?_
  rintro _ W29 ⟨k31, o30⟩
  replace k3 := k3.other o30 n18
  replace k8 := k8.other o30 n19
  clear k15
  replace h1 := h1.only o30 (.head _)
  replace hB := o30.below hB l20
  replace hL := LL.only hL o30
  refine Ni (hK28 (Rg (Pu rfl (Va (QR (r := (i : Int) + 1) rfl rfl rfl (Qm (by omega))) rfl rfl (Pu rfl (Ni ?_))))))
  replace k31 : Xc W29 W7.heap.size (Qr (ZG (i + 1) p.gen ++ zr (128 - (i + 1)))) := by rw [Gf i, show 128 - (i + 1) = 127 - i by omega]; exact k31
  exact hK23 (i + 1) ⟨(by omega), hB, hL, h1, k3, k8, k31⟩ (by omega) (by repeat first | exact trivial | refine aR ?_ | refine aI (by omega) ?_)
 .
  replace c27 := dF c27
  refine WC.exit ?_
  refine hK21 (Sq fun K32 hK32 => (Sq fun K33 hK33 => ?_))
  replace k15 : Xc W24 W7.heap.size (Qr ((ZG 8 p.gen ++ ZG 0 p.idx) ++ zr (120 - 0))) := by obtain rfl : i = 8 := (by omega); rw [show ZG 0 p.idx = [] from rfl, List.append_nil]; exact k15
  refine Rg (Pu rfl (Ni (hK33 (WC.block ?_))))
  refine WC.loop (fun (j : Nat) => [(1, .pointer (some ⟨w.heap.size, 0, none⟩)), (2, .pointer (some ⟨W2.heap.size, 0, none⟩)), (3, .pointer (some ⟨W7.heap.size, 0, none⟩)), (5, .int .i64 (j : Int))]) (fun (j : Nat) W => j <= 4 /\ Below w.heap.size w W /\ LL (W7.heap.size :: W2.heap.size :: w.heap.size :: L) W /\ QD 1 (W7.heap.size :: W2.heap.size :: w.heap.size :: L) W dv (Vw p.dat) /\ Xc W w.heap.size [.int .i64 p.gen, .int .i64 p.idx, .int .u8 p.mks, dv] /\ Xc W W2.heap.size (Qr z0) /\ Xc W W7.heap.size (Qr ((ZG 8 p.gen ++ ZG j p.idx) ++ zr (120 - j)))) (fun (j : Nat) => 4 - j) 0 (by repeat first | exact trivial | refine aR ?_ | refine aI (by omega) ?_) ⟨(by decide), hB, hL, h1, k3, k8, k15⟩ ?_
  clear h1 k3 k8 k15 hB hL
  rintro K34 j W35 ⟨hj, hB, hL, h1, k3, k8, k15⟩ hK34
  refine Sq fun K36 hK36 => (Sq fun K37 hK37 => (Rg (Pu rfl (Va (Xe rfl rfl rfl) rfl rfl (Ni (hK37 ?_))))))
  refine WC.cond rfl (fun c38 => ?_) (fun c38 => ?_)
  .
   replace c38 := dT c38
   refine WC.skip (hK36 (Sq fun K39 hK39 => (WC.block (Rg (Pu rfl (Va (QR (r := 8 + (j : Int)) rfl rfl rfl (Qm (by omega))) rfl rfl (Va (Qn (o1 := 1) rfl Y9 rfl rfl) rfl rfl ?_)))))))
   refine Va (Qi rfl Qv rfl (k3.cell (k := 1) rfl)) rfl rfl (Pu rfl (Va (VO (r := 8 * (j : Int)) rfl rfl rfl (by rw [Qm (by omega)])) rfl rfl (Va (XP (r := 8 * (j : Int)) rfl Tryd.underlying3 Tryd.underlying105 rfl (Uq (by omega))) rfl rfl (Va (Jm (r := p.idx / 2 ^ (8 * j)) rfl rfl rfl (by omega) (by show _ <= (64 : Int); omega) (by rw [show (8 * (j : Int)).toNat = 8 * j by omega])) rfl rfl (Va (XP (r := p.idx / 2 ^ (8 * j) % 256) rfl Tryd.underlying3 Tryd.underlying5 rfl (Js _)) rfl rfl (Va (QU (o1 := 8 + j) rfl Tryd.underlying75 QA rfl rfl (by omega) (by omega)) rfl rfl ?_))))))
   refine WL.do (Qh (cs' := Qr (((ZG 8 p.gen ++ ZG j p.idx) ++ [p.idx / 2 ^ (8 * j) % 256]) ++ zr (119 - j))) (vs := [.int .u8 (p.idx / 2 ^ (8 * j) % 256)]) rfl QA rfl rfl rfl (oC rfl Qk) k15 rfl (by rw [Qo, List.length_append, List.length_replicate, (show (ZG 8 p.gen ++ ZG j p.idx).length = 8 + j by rw [List.length_append, Xp, Xp])]; omega) (Jb (show (ZG 8 p.gen ++ ZG j p.idx).length = 8 + j by rw [List.length_append, Xp, Xp]) (by omega))) rfl ?_
   rintro _ W40 ⟨k42, o41⟩
   replace k3 := k3.other o41 n18
   replace k8 := k8.other o41 n19
   clear k15
   replace h1 := h1.only o41 (.head _)
   replace hB := o41.below hB l20
   replace hL := LL.only hL o41
   refine Ni (hK39 (Rg (Pu rfl (Va (QR (r := (j : Int) + 1) rfl rfl rfl (Qm (by omega))) rfl rfl (Pu rfl (Ni ?_))))))
   replace k42 : Xc W40 W7.heap.size (Qr ((ZG 8 p.gen ++ ZG (j + 1) p.idx) ++ zr (120 - (j + 1)))) := by rw [Gf j, <- List.append_assoc, show 120 - (j + 1) = 119 - j by omega]; exact k42
   exact hK34 (j + 1) ⟨(by omega), hB, hL, h1, k3, k8, k42⟩ (by omega) (by repeat first | exact trivial | refine aR ?_ | refine aI (by omega) ?_)
  .
   replace c38 := dF c38
   refine WC.exit ?_
   refine hK32 (Sq fun K43 hK43 => ?_)
   replace k15 : Xc W35 W7.heap.size (Qr ((ZG 8 p.gen ++ ZG 4 p.idx) ++ zr (115 + 1))) := by obtain rfl : j = 4 := (by omega); exact k15
   refine WC.drawC 8 [(7, W7.heap.size, Qr ((ZG 8 p.gen ++ ZG 4 p.idx) ++ zr (115 + 1)), fun cs_ W_ => cs_ = Qr (((ZG 8 p.gen ++ ZG 4 p.idx) ++ [(p.dat.length : Int) % 256]) ++ zr 115))] [(some 36, .is (.pointer (some ⟨w.heap.size, 3, none⟩))), (some 37, .is (dv)), (some 38, .is (.int .i64 (p.dat.length : Int))), (some 39, .is (.int .u8 ((p.dat.length : Int) % 256))), (some 40, .is (.pointer (some ⟨w.heap.size, 2, none⟩))), (some 41, .is (.int .u8 p.mks)), (some 42, .is (.pointer (some ⟨W7.heap.size, 12, none⟩))), (none, .by fun _ _ => True)] [[], [0], [1], [2], [], [4], [0, 1, 2, 3], [6, 3, 0, 1, 2, 3]] ⟨fun _ _ _ _ h => h, trivial⟩ (mA ⟨fun _ _ _ _ h => h, trivial⟩) ⟨fun x hx => (by cases hx), trivial⟩ (mA ⟨fun _ _ _ _ h => h, fun _ _ _ _ _ _ _ h => h⟩) (mA k15) ?_ ?_
   .
    refine Ql.cons rfl (fun Wd hd hbs_ => ?_) ?_
    .
     exact Dd (Qn (o1 := 3) rfl Y8 rfl rfl) rfl
    refine Ql.cons rfl (fun Wd hd hbs_ => ?_) ?_
    .
     have k3 := k3.chgM hd (by simp only [List.map_cons, List.map_nil, List.mem_cons, List.not_mem_nil, or_false, not_or]; exact n18)
     exact Dd (Qi rfl XR rfl (k3.cell (k := 3) rfl)) rfl
    refine Ql.cons rfl (fun Wd hd hbs_ => ?_) ?_
    .
     have h1 := h1.chgM hd (mA (.head _))
     exact Dd (QT rfl QH rfl h1) rfl
    refine Ql.cons rfl (fun Wd hd hbs_ => ?_) ?_
    .
     exact Dd (XP (r := (p.dat.length : Int) % 256) rfl Tryd.underlying3 Tryd.underlying5 rfl (Js _)) rfl
    refine Ql.cons rfl (fun Wd hd hbs_ => ?_) ?_
    .
     exact Dd (Qn (o1 := 2) rfl Zx rfl rfl) rfl
    refine Ql.cons rfl (fun Wd hd hbs_ => ?_) ?_
    .
     have k3 := k3.chgM hd (by simp only [List.map_cons, List.map_nil, List.mem_cons, List.not_mem_nil, or_false, not_or]; exact n18)
     exact Dd (Qi rfl X1 rfl (k3.cell (k := 2) rfl)) rfl
    refine Ql.cons rfl (fun Wd hd hbs_ => ?_) ?_
    .
     exact Dd (QU (o1 := 12) rfl Tryd.underlying75 QA rfl rfl (by decide) rfl) rfl
    refine Ql.hit rfl (fun Wd hd hb_ => ?_) ?_
    .
     exact DR.mono (Qh (cs' := Qr (((ZG 8 p.gen ++ ZG 4 p.idx) ++ [(p.dat.length : Int) % 256]) ++ zr 115)) (vs := [.int .u8 ((p.dat.length : Int) % 256)]) rfl QA rfl rfl rfl (oC rfl Qk) hb_ rfl (by rw [Qo, List.length_append, List.length_replicate, (show (ZG 8 p.gen ++ ZG 4 p.idx).length = 12 by rw [List.length_append, Xp, Xp])]; decide) (Jb (show (ZG 8 p.gen ++ ZG 4 p.idx).length = 12 by rw [List.length_append, Xp, Xp]) rfl)) (fun _ W_ h => ⟨h.2, Xj.is h.1, trivial⟩)
    exact trivial
   .
    intro W44 hd hq_
    replace h1 := h1.chgM hd (mA (.head _))
    replace k3 := k3.chgM hd (by simp only [List.map_cons, List.map_nil, List.mem_cons, List.not_mem_nil, or_false, not_or]; exact n18)
    replace k8 := k8.chgM hd (by simp only [List.map_cons, List.map_nil, List.mem_cons, List.not_mem_nil, or_false, not_or]; exact n19)
    have k45 := hq_ _ (.head _)
    replace k45 := Xj.blk k45
    replace hB := hd.toBelow hB (mA l20)
    replace hL := hL.chgM hd
    intro _ _
    refine Va (QU (o1 := 13) rfl Tryd.underlying75 QA rfl rfl (by decide) rfl) rfl rfl ?_
    refine WL.do (Qh (cs' := Qr ((((ZG 8 p.gen ++ ZG 4 p.idx) ++ [(p.dat.length : Int) % 256]) ++ [p.mks]) ++ zr 114)) (vs := [.int .u8 p.mks]) rfl QA rfl rfl rfl (oC rfl Qk) k45 rfl (by rw [Qo, List.length_append, List.length_replicate, (show ((ZG 8 p.gen ++ ZG 4 p.idx) ++ [(p.dat.length : Int) % 256]).length = 13 by rw [List.length_append, List.length_append, Xp, Xp]; rfl)]; omega) (Jb (show ((ZG 8 p.gen ++ ZG 4 p.idx) ++ [(p.dat.length : Int) % 256]).length = 13 by rw [List.length_append, List.length_append, Xp, Xp]; rfl) (by omega))) rfl ?_
    rintro _ W46 ⟨k48, o47⟩
    replace k3 := k3.other o47 n18
    replace k8 := k8.other o47 n19
    clear k45
    replace h1 := h1.only o47 (.head _)
    replace hB := o47.below hB l20
    replace hL := LL.only hL o47
    refine Ni (hK43 (Sq fun K49 hK49 => (Sq fun K50 hK50 => ?_)))
    replace k48 : Xc W46 W7.heap.size (Qr (((((ZG 8 p.gen ++ ZG 4 p.idx) ++ [(p.dat.length : Int) % 256]) ++ [p.mks % 256]) ++ p.dat.take 0) ++ zr (114 - 0))) := by rw [List.take_zero, List.append_nil, hmk2]; exact k48
    refine Rg (Pu rfl (Ni (hK50 (WC.block ?_))))
    refine WC.loop (fun (k : Nat) => [(1, .pointer (some ⟨w.heap.size, 0, none⟩)), (2, .pointer (some ⟨W2.heap.size, 0, none⟩)), (3, .pointer (some ⟨W7.heap.size, 0, none⟩)), (6, .int .i64 (k : Int))]) (fun (k : Nat) W => k <= p.dat.length /\ Below w.heap.size w W /\ LL (W7.heap.size :: W2.heap.size :: w.heap.size :: L) W /\ QD 1 (W7.heap.size :: W2.heap.size :: w.heap.size :: L) W dv (Vw p.dat) /\ Xc W w.heap.size [.int .i64 p.gen, .int .i64 p.idx, .int .u8 p.mks, dv] /\ Xc W W2.heap.size (Qr z0) /\ Xc W W7.heap.size (Qr (((((ZG 8 p.gen ++ ZG 4 p.idx) ++ [(p.dat.length : Int) % 256]) ++ [p.mks % 256]) ++ p.dat.take k) ++ zr (114 - k)))) (fun (k : Nat) => p.dat.length - k) 0 (by repeat first | exact trivial | refine aR ?_ | refine aI (by omega) ?_) ⟨Nat.zero_le _, hB, hL, h1, k3, k8, k48⟩ ?_
    clear h1 k3 k8 k48 hB hL
    rintro K51 k W52 ⟨hk, hB, hL, h1, k3, k8, k48⟩ hK51
    refine Sq fun K53 hK53 => (Sq fun K54 hK54 => (Rg (Pu rfl (Va (Qn (o1 := 3) rfl Y8 rfl rfl) rfl rfl (Va (Qi rfl XR rfl (k3.cell (k := 3) rfl)) rfl rfl (Va (QT rfl QH rfl h1) rfl rfl (Va (Xe rfl rfl rfl) rfl rfl ?_)))))))
    refine Ni (hK54 ?_)
    refine WC.cond rfl (fun c55 => ?_) (fun c55 => ?_)
    .
     replace c55 := dT c55
     refine WC.skip (hK53 (Sq fun K56 hK56 => (WC.block (Rg (Pu rfl (Va (QR (r := 14 + (k : Int)) rfl rfl rfl (Qm (by omega))) rfl rfl (Va (Qn (o1 := 3) rfl Y8 rfl rfl) rfl rfl ?_)))))))
     refine Va (Qi rfl XR rfl (k3.cell (k := 3) rfl)) rfl rfl (Pu rfl ?_)
     obtain ⟨r57, e58⟩ : ∃ x, p.dat[k]? = some x := ⟨_, List.getElem?_eq_getElem (by omega)⟩
     refine Ge (XH k rfl QH rfl rfl h1 (by omega) (XG (enc := fun x => [Value.int .u8 x]) e58)) rfl rfl ?_
     rintro u59 _ ⟨rfl, p60⟩
     refine Va (Zn rfl X1 rfl p60) rfl rfl (Va (QU (o1 := 14 + k) rfl Tryd.underlying75 QA rfl rfl (by omega) (by omega)) rfl rfl ?_)
     refine WL.do (Qh (cs' := Qr ((((((ZG 8 p.gen ++ ZG 4 p.idx) ++ [(p.dat.length : Int) % 256]) ++ [p.mks % 256]) ++ p.dat.take k) ++ [r57]) ++ zr (113 - k))) (vs := [.int .u8 r57]) rfl QA rfl rfl rfl (oC rfl Qk) k48 rfl (by rw [Qo, List.length_append, List.length_replicate, (show ((((ZG 8 p.gen ++ ZG 4 p.idx) ++ [(p.dat.length : Int) % 256]) ++ [p.mks % 256]) ++ p.dat.take k).length = 14 + k by rw [List.length_append, List.length_append, List.length_append, List.length_append, Xp, Xp, List.length_take]; simp; omega)]; omega) (Jb (show ((((ZG 8 p.gen ++ ZG 4 p.idx) ++ [(p.dat.length : Int) % 256]) ++ [p.mks % 256]) ++ p.dat.take k).length = 14 + k by rw [List.length_append, List.length_append, List.length_append, List.length_append, Xp, Xp, List.length_take]; simp; omega) (by omega))) rfl ?_
     rintro _ W61 ⟨k63, o62⟩
     replace k3 := k3.other o62 n18
     replace k8 := k8.other o62 n19
     clear k48
     replace h1 := h1.only o62 (.head _)
     replace hB := o62.below hB l20
     replace hL := LL.only hL o62
     refine Ni (hK56 (Rg (Pu rfl (Va (QR (r := (k : Int) + 1) rfl rfl rfl (Qm (by omega))) rfl rfl (Pu rfl (Ni ?_))))))
     replace k63 : Xc W61 W7.heap.size (Qr (((((ZG 8 p.gen ++ ZG 4 p.idx) ++ [(p.dat.length : Int) % 256]) ++ [p.mks % 256]) ++ p.dat.take (k + 1)) ++ zr (114 - (k + 1)))) := by rw [List.take_add_one, e58, Option.toList_some, <- List.append_assoc, show 114 - (k + 1) = 113 - k by omega]; exact k63
     exact hK51 (k + 1) ⟨(by omega), hB, hL, h1, k3, k8, k63⟩ (by omega) (by repeat first | exact trivial | refine aR ?_ | refine aI (by omega) ?_)
    .
     replace c55 := dF c55
     refine WC.exit ?_
     refine hK49 (Sq fun K64 hK64 => ?_)
     have hl6 : (XN p).length = 120 := YG (by omega)
     replace k48 : Xc W52 W7.heap.size (Qr (XN p ++ zr 8)) := by obtain rfl : k = p.dat.length := (by omega); rw [List.take_length] at k48; have e_ : XN p ++ zr 8 = ((((ZG 8 p.gen ++ ZG 4 p.idx) ++ [(p.dat.length : Int) % 256]) ++ [p.mks % 256]) ++ p.dat) ++ zr (114 - p.dat.length) := (by unfold XN; rw [List.append_assoc (_ ++ p.dat) (zr (106 - p.dat.length)) (zr 8), List.replicate_append_replicate, show 106 - p.dat.length + 8 = 114 - p.dat.length by omega]); rw [e_]; exact k48
     refine Rg (Va (Jl 120 rfl Tryd.underlying75 QA rfl rfl (by omega) (by omega) (by decide)) rfl rfl ?_)
     refine Ge (QQ rfl Tryd.func84 rfl rfl rfl (F5 (XN p) _ W52 [] (LL.nil _) (by have e_ := JQ k48 0 120 128 (by rw [List.length_append, hl6]; simp) (by omega) (by unfold maxLen; omega); rw [List.drop_zero, List.take_append_of_le_length (by omega), List.take_of_length_le (by omega)] at e_; exact e_) ⟨hR.below hB, by simp, by simp⟩ (by omega) (KG hby))) rfl rfl ?_
     rintro _ W66 ⟨rfl, b65⟩
     replace h1 := h1.below b65
     replace k3 := k3.below b65
     replace k8 := k8.below b65
     replace k48 := k48.below b65
     replace hB := Qe hB b65
     replace hL := LL.below hL b65
     refine Ge (Qu (cs := Qr (zr 32)) rfl VV HZ) rfl rfl ?_
     rintro _ W67 ⟨rfl, k68, b69, z70⟩
     have n71 : w.heap.size ≠ W66.heap.size := Nat.ne_of_lt k3.lt
     have n72 : W2.heap.size ≠ W66.heap.size := Nat.ne_of_lt k8.lt
     have n73 : W7.heap.size ≠ W66.heap.size := Nat.ne_of_lt k48.lt
     have l74 := hB.size
     replace h1 := h1.more b69 (Nat.le_refl _)
     replace k3 := k3.below b69
     replace k8 := k8.below b69
     replace k48 := k48.below b69
     replace hB := Qe hB b69
     replace hL := LL.more hL z70
     refine WL.do (Qx (vs := (Qr (XK (XN p)))) rfl VG rfl rfl rfl (YU (XK (XN p))) k68 (by rw [Qo]; exact (VB _)) (by rw [Qo]; rfl)) rfl ?_
     rintro _ W75 ⟨k77, o76⟩
     replace k3 := k3.other o76 n71
     replace k8 := k8.other o76 n72
     replace k48 := k48.other o76 n73
     clear k68
     replace h1 := h1.only o76 (.head _)
     replace hB := o76.below hB l74
     replace hL := LL.only hL o76
     refine Ni (hK64 (Sq fun K78 hK78 => (Sq fun K79 hK79 => ?_)))
     replace k48 : Xc W75 W7.heap.size (Qr ((XN p ++ (XK (XN p)).take 0) ++ zr (8 - 0))) := by rw [List.take_zero, List.append_nil]; exact k48
     have hsl : (XK (XN p)).length = 32 := VB _
     refine Rg (Pu rfl (Ni (hK79 (WC.block ?_))))
     refine WC.loop (fun (t : Nat) => [(1, .pointer (some ⟨w.heap.size, 0, none⟩)), (2, .pointer (some ⟨W2.heap.size, 0, none⟩)), (3, .pointer (some ⟨W7.heap.size, 0, none⟩)), (7, .pointer (some ⟨W66.heap.size, 0, none⟩)), (8, .int .i64 (t : Int))]) (fun (t : Nat) W => t <= 8 /\ Below w.heap.size w W /\ LL (W66.heap.size :: W7.heap.size :: W2.heap.size :: w.heap.size :: L) W /\ QD 1 (W66.heap.size :: W7.heap.size :: W2.heap.size :: w.heap.size :: L) W dv (Vw p.dat) /\ Xc W w.heap.size [.int .i64 p.gen, .int .i64 p.idx, .int .u8 p.mks, dv] /\ Xc W W2.heap.size (Qr z0) /\ Xc W W7.heap.size (Qr ((XN p ++ (XK (XN p)).take t) ++ zr (8 - t))) /\ Xc W W66.heap.size (Qr (XK (XN p)))) (fun (t : Nat) => 8 - t) 0 (by repeat first | exact trivial | refine aR ?_ | refine aI (by omega) ?_) ⟨(by decide), hB, hL, h1, k3, k8, k48, k77⟩ ?_
     clear h1 k3 k8 k48 k77 hB hL
     rintro K80 t W81 ⟨ht, hB, hL, h1, k3, k8, k48, k77⟩ hK80
     refine Sq fun K82 hK82 => (Sq fun K83 hK83 => (Rg (Pu rfl (Va (Xe rfl rfl rfl) rfl rfl (Ni (hK83 ?_))))))
     refine WC.cond rfl (fun c84 => ?_) (fun c84 => ?_)
     .
      replace c84 := dT c84
      refine WC.skip (hK82 (Sq fun K85 hK85 => (WC.block (Rg (Pu rfl (Va (QR (r := 120 + (t : Int)) rfl rfl rfl (Qm (by omega))) rfl rfl (Pu rfl ?_)))))))
      refine Va (QU (o1 := t) rfl Tryd.underlying132 QA rfl rfl (by omega) (by omega)) rfl rfl ?_
      refine Va (ZX (Qi rfl X1 rfl (k77.cell (U1 (by omega)))) (show _ = Value.int .u8 (QX (XK (XN p)) t) by unfold QX; rw [List.getElem?_eq_getElem (by omega)])) rfl rfl ?_
      refine Va (QU (o1 := 120 + t) rfl Tryd.underlying75 QA rfl rfl (by omega) (by omega)) rfl rfl ?_
      refine WL.do (Qh (cs' := Qr (((XN p ++ (XK (XN p)).take t) ++ [(QX (XK (XN p)) t)]) ++ zr (7 - t))) (vs := [.int .u8 (QX (XK (XN p)) t)]) rfl QA rfl rfl rfl (oC rfl Qk) k48 rfl (by rw [Qo, List.length_append, List.length_replicate, (show (XN p ++ (XK (XN p)).take t).length = 120 + t by rw [List.length_append, hl6, List.length_take]; omega)]; omega) (Jb (show (XN p ++ (XK (XN p)).take t).length = 120 + t by rw [List.length_append, hl6, List.length_take]; omega) (by omega))) rfl ?_
      rintro _ W86 ⟨k88, o87⟩
      replace k3 := k3.other o87 n18
      replace k8 := k8.other o87 n19
      replace k77 := k77.other o87 n73.symm
      clear k48
      replace h1 := h1.only o87 (.tail _ (.head _))
      replace hB := o87.below hB l20
      replace hL := LL.only hL o87
      refine Ni (hK85 (Rg (Pu rfl (Va (QR (r := (t : Int) + 1) rfl rfl rfl (Qm (by omega))) rfl rfl (Pu rfl (Ni ?_))))))
      replace k88 : Xc W86 W7.heap.size (Qr ((XN p ++ (XK (XN p)).take (t + 1)) ++ zr (8 - (t + 1)))) := by rw [YY _ t (by omega), <- List.append_assoc, show 8 - (t + 1) = 7 - t by omega]; exact k88
      exact hK80 (t + 1) ⟨(by omega), hB, hL, h1, k3, k8, k88, k77⟩ (by omega) (by repeat first | exact trivial | refine aR ?_ | refine aI (by omega) ?_)
     .
      replace c84 := dF c84
      refine WC.exit ?_
      refine hK78 (Sq fun K89 hK89 => ?_)
      replace k48 : Xc W81 W7.heap.size (Qr (Xk p)) := by obtain rfl : t = 8 := (by omega); have e_ : Xk p = (XN p ++ (XK (XN p)).take 8) ++ zr (8 - 8) := (by unfold Xk; rw [Nat.sub_self]; exact (List.append_nil _).symm); rw [e_]; exact k48
      refine Rg (Va (Qg rfl QF rfl k48.range (by rw [Qo, Z8 (by omega)])) rfl rfl ?_)
      refine WL.do (Qx (vs := (Qr (Xk p))) rfl Q1 rfl rfl rfl (YU (Xk p)) k8 (by rw [Qo]; exact (Z8 (by omega))) (by rw [Qo]; exact Xy)) rfl ?_
      rintro _ W90 ⟨k92, o91⟩
      clear k8
      replace hB := o91.below hB l12
      refine Ni (hK89 ?_)
      exact WC.ret fun a_ ha_ => hQ (QI rfl (.agg rfl QF k92.range (by rw [Qo]; exact (Z8 (by omega)))) rfl hB ha_)

theorem Qcp {x b : Int} (h0 : 0 <= x) (hx : x < 281474976710656) (hb : 0 <= b /\ b <= 255) : bits BinOp.or IntKind.i64 (x * 256) b = b + 256 * x := by
 have e := EE (x * 256) b
 rw [Qm (x := b) (by omega)] at e
 rw [e, Gw (x * 256) b 8 (by omega) (by omega) (by omega) hb.1 (by omega) (by omega), Qm (by omega)]
 omega
theorem Ez {l : List Int} {n : Nat} (h0 : 1 <= n) (hn : n <= l.length) : Zg (l.drop (n - 1)) = l[n - 1]?.getD 0 + 256 * Zg (l.drop n) := by
 rw [show l.drop (n - 1) = l[n - 1] :: l.drop (n - 1 + 1) from List.drop_eq_getElem_cons (by omega), Zg, List.getElem?_eq_getElem (by omega), show n - 1 + 1 = n by omega]
 rfl
theorem Dz {z : List Int} {k i : Nat} (h : i < k) : (z.take k)[i]? = z[i]? := by rw [List.getElem?_take, if_pos h]
theorem Qad {l : List Int} (h : Z0 l) {n m : Nat} (hm : l.length <= m + n) : 0 <= Zg (l.drop n) /\ Zg (l.drop n) < 2 ^ (8 * m) := by
 have h1 := Ur (l.drop n) fun x hx => h x (List.mem_of_mem_drop hx)
 refine ⟨h1.1, Int.lt_of_lt_of_le h1.2 ?_⟩
 rw [List.length_drop]
 obtain ⟨d, hd⟩ : ∃ d, m = l.length - n + d := ⟨m - (l.length - n), by omega⟩
 rw [hd, Nat.mul_add, Int.pow_add]
 have h2 : (0 : Int) < 2 ^ (8 * d) := Int.pow_pos (by decide)
 have h3 : (0 : Int) < 2 ^ (8 * (l.length - n)) := Int.pow_pos (by decide)
 have h4 := Int.mul_le_mul_of_nonneg_left (show (1 : Int) <= 2 ^ (8 * d) by omega) (Int.le_of_lt h3)
 rwa [Int.mul_one] at h4
theorem QfJ {z : List Int} (hz : z.length = 128) : (z.drop 0).take 8 = (z.take 6 ++ [z[6]?.getD 0]) ++ [z[7]?.getD 0] := by
 rw [List.drop_zero, show (8 : Nat) = 7 + 1 from rfl, List.take_add_one, show (7 : Nat) = 6 + 1 from rfl, List.take_add_one, List.getElem?_eq_getElem (by omega), List.getElem?_eq_getElem (by omega)]
 rfl
theorem Ew {z : List Int} (hz : z.length = 128) (hb : Z0 z) : Zg ((z.drop 0).take 8) = Zg (z.take 6) + (z[6]?.getD 0) * 281474976710656 + (z[7]?.getD 0) * 72057594037927936 := by
 rw [QfJ hz, UP, UP, List.length_append, List.length_take, hz]
 rfl
theorem Uk {z : List Int} (hz : z.length = 128) (hb : Z0 z) (h : ¬ z[7]?.getD 0 = 0 \/ ¬ z[6]?.getD 0 = 0) : X9 ((z.drop 0).take 8) < 1 \/ 1099511627776 < X9 ((z.drop 0).take 8) := by
 have h6 := V7 hb 6
 have h7 := V7 hb 7
 have hl := Ur (z.take 6) fun x hx => hb x (List.mem_of_mem_take hx)
 rw [List.length_take, hz] at hl
 have hp : (2 : Int) ^ (8 * (min 6 128)) = 281474976710656 := by decide
 rw [hp] at hl
 unfold X9
 rw [Ew hz hb, Qbx]
 split <;> omega
theorem Qd1 {z : List Int} (hz : z.length = 128) (hb : Z0 z) (h7 : z[7]?.getD 0 = 0) (h6 : z[6]?.getD 0 = 0) : X9 ((z.drop 0).take 8) = Zg (z.take 6) := by
 have hl := Ur (z.take 6) fun x hx => hb x (List.mem_of_mem_take hx)
 rw [List.length_take, hz] at hl
 have hp : (2 : Int) ^ (8 * (min 6 128)) = 281474976710656 := by decide
 rw [hp] at hl
 unfold X9
 rw [Ew hz hb, h6, h7, Qm (by omega)]
 omega
theorem Qd2 {z : List Int} (hz : z.length = 128) (hb : Z0 z) : X9 ((z.drop 8).take 4) = Zg ((z.drop 8).take 4) := by
 have hl := Ur ((z.drop 8).take 4) (V2 hb _ _)
 rw [U8 hz (by decide)] at hl
 have hp : (2 : Int) ^ (8 * 4) = 4294967296 := by decide
 rw [hp] at hl
 unfold X9
 exact Qm (by omega)
theorem QfG (l : List Int) : ∀ r ∈ Vw l, ∀ u ∈ r, u.oneCell' = true := fun r hr u hu => by
 obtain ⟨x, _, rfl⟩ := List.mem_map.1 hr
 rw [List.mem_singleton.1 hu]; rfl
theorem Qex {z : List Int} {p : Pg} (h : VR z \/ ¬ Xk (Ub z) = z) : UnS z p false := ⟨fun h => (by cases h), fun _ => by
  unfold Zq
  rcases h with h | h
  . rw [if_pos h]
  . split
    . rfl
    . first | rfl | rw [if_neg h]⟩
theorem Qbi : Tryd.prog.built 96 [] = some [Value.int .i64 0, .int .i64 0, .int .u8 0, .slice none 0 0].toArray := by kernel_rfl
set_option maxHeartbeats 1000000 in
theorem QaG (z : List Int) (w : World) (L : List Nat) (hL : LL L w)   (hL0 : LL L w) (hz : z.length = 128) (hbz : Z0 z) (hR : U5 w) : CV Tryd.prog 49 [.agg (Qr z).toArray] w fun v W => ∃ (p : Pg) (dv : Value) (b : Bool), v = .tuple #[.agg #[.int .i64 p.gen, .int .i64 p.idx, .int .u8 p.mks, dv], .bool b] /\ QD 1 L W dv (Vw p.dat) /\ UnS z p b /\ Z0 p.dat /\ p.dat.length <= 100 /\ (0 <= p.mks /\ p.mks <= 255) := by
 refine QN (N := 80) (f := [(0, .agg (Qr z).toArray)]) Tryd.func49 rfl rfl rfl rfl fun Q hQ hE => ?_
 have hB := Below.refl w.heap.size w
 refine Sq fun K1 hK1 => (Rg ?_)
 refine Ge (Xa (cs := (Qr z)) rfl rfl rfl) rfl rfl ?_
 rintro _ W2 ⟨rfl, k3, b4, z5⟩
 have l6 := hB.size
 replace hB := Qe hB b4
 replace hL := LL.more hL z5
 refine Ge (Qu rfl VF rfl) rfl rfl ?_
 rintro _ W7 ⟨rfl, k8, b9, z10⟩
 have l12 := hB.size
 replace k3 := k3.below b9
 replace hB := Qe hB b9
 replace hL := LL.more hL z10
 refine Pu rfl (Ni (hK1 (Sq fun K13 hK13 => ?_)))
 have hb6 := V7 hbz 6
 have hb7 := V7 hbz 7
 have hb12 := V7 hbz 12
 have hb13 := V7 hbz 13
 obtain ⟨q, hq⟩ : ∃ q : Nat, z[12]?.getD 0 = (q : Int) := ⟨(z[12]?.getD 0).toNat, by omega⟩
 have hl6 : (z.take 6).length = 6 := by rw [List.length_take]; omega
 have hl4 := U8 hz (a := 8) (b := 4) (by decide)
 have hb6s : Z0 (z.take 6) := fun x hx => hbz x (List.mem_of_mem_take hx)
 have hb4s := V2 hbz 8 4
 refine Rg ?_
 refine Ge (Qu rfl VF rfl) rfl rfl ?_
 rintro _ W14 ⟨rfl, k15, b16, z17⟩
 have n18 : w.heap.size ≠ W7.heap.size := Nat.ne_of_lt k3.lt
 have n19 : W2.heap.size ≠ W7.heap.size := Nat.ne_of_lt k8.lt
 have l20 := hB.size
 replace k3 := k3.below b16
 replace k8 := k8.below b16
 replace hB := Qe hB b16
 replace hL := LL.more hL z17
 refine Ni (hK13 (Sq fun K21 hK21 => (Sq fun K22 hK22 => (Rg (Va (QU (o1 := 7) rfl Tryd.underlying75 QA rfl rfl (by omega) (by first | (simp; done) | omega)) rfl rfl (Va (Qi rfl X1 rfl (k3.cell (k := 7) (U1 (by rw [show z.length = 128 from hz]; exact (by omega))))) rfl rfl (Va (Xl rfl rfl rfl) rfl rfl ?_)))))))
 refine Pu rfl ?_
 refine WL.split 10 rfl (fun g23 => ?_) (fun g23 => ?_)
 .
  replace g23 := Q4 g23
  replace g23 := dF g23
  refine Of rfl (Of rfl (Of rfl (Pu rfl (Pu rfl (Of rfl (Of rfl (Of rfl ?_)))))))
  refine Pu rfl (Ni (hK22 (WC.condT rfl (Sq fun K24 hK24 => (Rg (Va (Qg rfl XD rfl k15.range rfl) rfl rfl ?_))))))
  refine WL.do (Qh (cs' := [.int .i64 0, .int .i64 0, .int .u8 0, .slice none 0 0]) (vs := [.int .i64 0, .int .i64 0, .int .u8 0, .slice none 0 0]) rfl ZN rfl rfl rfl (oC rfl (oC rfl (oC rfl (oC rfl Qk)))) k8 rfl (nB rfl) rfl) rfl ?_
  rintro _ W25 ⟨k27, o26⟩
  clear k8
  replace hB := o26.below hB l12
  refine Pu rfl (Ni (hK24 ?_))
  exact WC.ret fun a_ ha_ => hQ (QO rfl (.agg rfl XD k27.range rfl) (.tmp rfl) ⟨⟨0, 0, 0, []⟩, _, false, rfl, QD.nil (by decide), Us (by unfold VR; by_cases h7_ : z[7]?.getD 0 = 0; (by_cases h6_ : z[6]?.getD 0 = 0; exact .inr (.inr (.inl (by first | omega | (simp_all; omega)))); (rcases Uk hz hbz (.inr h6_) with h_ | h_; exact .inl h_; exact .inr (.inl h_))); (rcases Uk hz hbz (.inl h7_) with h_ | h_; exact .inl h_; exact .inr (.inl h_))), fun x hx => (by cases hx), by show 0 <= 100; omega, by show (0 : Int) <= 0 /\ (0 : Int) <= 255; omega⟩ hB ha_)
 .
  replace g23 := Q2 g23
  replace g23 := dT g23
  refine Va (QU (o1 := 6) rfl Tryd.underlying75 QA rfl rfl (by omega) (by first | (simp; done) | omega)) rfl rfl (Va (Qi rfl X1 rfl (k3.cell (k := 6) (U1 (by rw [show z.length = 128 from hz]; exact (by omega))))) rfl rfl (Va (Xl rfl rfl rfl) rfl rfl (Pu rfl (Pu rfl ?_))))
  refine WL.split 15 rfl (fun g28 => ?_) (fun g28 => ?_)
  .
   replace g28 := Q4 g28
   replace g28 := dF g28
   refine Of rfl (Of rfl (Of rfl (Pu rfl (Ni (hK22 (WC.condT rfl (Sq fun K29 hK29 => ?_)))))))
   refine Rg (Va (Qg rfl XD rfl k15.range rfl) rfl rfl ?_)
   refine WL.do (Qh (cs' := [.int .i64 0, .int .i64 0, .int .u8 0, .slice none 0 0]) (vs := [.int .i64 0, .int .i64 0, .int .u8 0, .slice none 0 0]) rfl ZN rfl rfl rfl (oC rfl (oC rfl (oC rfl (oC rfl Qk)))) k8 rfl (nB rfl) rfl) rfl ?_
   rintro _ W30 ⟨k32, o31⟩
   clear k8
   replace hB := o31.below hB l12
   refine Pu rfl (Ni (hK29 ?_))
   exact WC.ret fun a_ ha_ => hQ (QO rfl (.agg rfl XD k32.range rfl) (.tmp rfl) ⟨⟨0, 0, 0, []⟩, _, false, rfl, QD.nil (by decide), Us (by unfold VR; by_cases h7_ : z[7]?.getD 0 = 0; (by_cases h6_ : z[6]?.getD 0 = 0; exact .inr (.inr (.inl (by first | omega | (simp_all; omega)))); (rcases Uk hz hbz (.inr h6_) with h_ | h_; exact .inl h_; exact .inr (.inl h_))); (rcases Uk hz hbz (.inl h7_) with h_ | h_; exact .inl h_; exact .inr (.inl h_))), fun x hx => (by cases hx), by show 0 <= 100; omega, by show (0 : Int) <= 0 /\ (0 : Int) <= 255; omega⟩ hB ha_)
  .
   replace g28 := Q2 g28
   replace g28 := dT g28
   refine Va (QU (o1 := 12) rfl Tryd.underlying75 QA rfl rfl (by omega) (by first | (simp; done) | omega)) rfl rfl (Va (Qi rfl X1 rfl (k3.cell (k := 12) (U1 (by rw [show z.length = 128 from hz]; exact (by omega))))) rfl rfl (Va (XL rfl rfl rfl) rfl rfl (Pu rfl (Ni (hK22 ?_)))))
   refine WC.cond rfl (fun c33 => ?_) (fun c33 => ?_)
   .
    replace c33 := dT c33
    refine Sq fun K34 hK34 => (Rg (Va (Qg rfl XD rfl k15.range rfl) rfl rfl ?_))
    refine WL.do (Qh (cs' := [.int .i64 0, .int .i64 0, .int .u8 0, .slice none 0 0]) (vs := [.int .i64 0, .int .i64 0, .int .u8 0, .slice none 0 0]) rfl ZN rfl rfl rfl (oC rfl (oC rfl (oC rfl (oC rfl Qk)))) k8 rfl (nB rfl) rfl) rfl ?_
    rintro _ W35 ⟨k37, o36⟩
    clear k8
    replace hB := o36.below hB l12
    refine Pu rfl (Ni (hK34 ?_))
    exact WC.ret fun a_ ha_ => hQ (QO rfl (.agg rfl XD k37.range rfl) (.tmp rfl) ⟨⟨0, 0, 0, []⟩, _, false, rfl, QD.nil (by decide), Us (by unfold VR; by_cases h7_ : z[7]?.getD 0 = 0; (by_cases h6_ : z[6]?.getD 0 = 0; exact .inr (.inr (.inl (by first | omega | (simp_all; omega)))); (rcases Uk hz hbz (.inr h6_) with h_ | h_; exact .inl h_; exact .inr (.inl h_))); (rcases Uk hz hbz (.inl h7_) with h_ | h_; exact .inl h_; exact .inr (.inl h_))), fun x hx => (by cases hx), by show 0 <= 100; omega, by show (0 : Int) <= 0 /\ (0 : Int) <= 255; omega⟩ hB ha_)
   .
    replace c33 := dF c33
    refine WC.skip (hK21 (Sq fun K38 hK38 => (Sq fun K39 hK39 => (Rg (Pu rfl (Ni (hK39 ?_)))))))
    refine WC.block ?_
    replace k15 : Xc W14 W7.heap.size [.int .i64 (Zg ((z.take 6).drop 6)), .int .i64 0, .int .u8 0, .slice none 0 0] := by rw [show Zg ((z.take 6).drop 6) = 0 by rw [List.drop_eq_nil_of_le (by omega)]; rfl]; exact k15
    refine WC.loop (fun (n : Nat) => [(1, .pointer (some ⟨w.heap.size, 0, none⟩)), (2, .pointer (some ⟨W2.heap.size, 0, none⟩)), (3, .bool false), (4, .pointer (some ⟨W7.heap.size, 0, none⟩)), (5, .int .i64 ((n : Int) - 1))]) (fun (n : Nat) W => n <= 6 /\ Below w.heap.size w W /\ LL (W7.heap.size :: W2.heap.size :: w.heap.size :: L) W /\ Xc W w.heap.size (Qr z) /\ Xc W W2.heap.size [.int .i64 0, .int .i64 0, .int .u8 0, .slice none 0 0] /\ Xc W W7.heap.size [.int .i64 (Zg ((z.take 6).drop n)), .int .i64 0, .int .u8 0, .slice none 0 0]) (fun (n : Nat) => n) 6 (by repeat first | exact trivial | refine aR ?_ | refine aI (by omega) ?_) ⟨(Nat.le_refl _), hB, hL, k3, k8, k15⟩ ?_
    clear k3 k8 k15 hB hL
    rintro K40 n W41 ⟨hn, hB, hL, k3, k8, k15⟩ hK40
    refine Sq fun K42 hK42 => (Sq fun K43 hK43 => (Rg (Pu rfl (Va (Yr rfl rfl rfl) rfl rfl (Ni (hK43 ?_))))))
    refine WC.cond rfl (fun c44 => ?_) (fun c44 => ?_)
    .
     replace c44 := dT c44
     refine WC.skip (hK42 (Sq fun K45 hK45 => (WC.block ?_)))
     have hbn := V7 hbz (n - 1)
     have hvn := Qad hb6s (n := n) (m := 6) (by omega)
     have hpw : (2 : Int) ^ (8 * 6) = 281474976710656 := by decide
     rw [hpw] at hvn
     have hvs : z[n - 1]?.getD 0 + 256 * Zg ((z.take 6).drop n) = Zg ((z.take 6).drop (n - 1)) := by rw [Ez (by omega) (by omega), Dz (by omega)]
     refine dM 7 [(some 25, .is (.pointer (some ⟨W7.heap.size, 0, none⟩))), (some 26, .is (.int .i64 (Zg ((z.take 6).drop n)))), (some 27, .is (.int .i64 ((Zg ((z.take 6).drop n)) * 256))), (some 28, .is (.int .i64 ((n : Int) - 1))), (some 29, .is (.pointer (some ⟨w.heap.size, (n - 1), none⟩))), (some 30, .is (.int .u8 (z[n - 1]?.getD 0))), (some 31, .is (.int .i64 (z[n - 1]?.getD 0)))] [[], [0], [1], [], [3], [4], [5]] (by exact trivial) ?_ ?_
     .
      refine Dc (fun Wd hd => ?_) ?_
      .
       exact Dd (Qn (o1 := 0) rfl Z7 rfl rfl) rfl
      refine Dc (fun Wd hd => ?_) ?_
      .
       have k15 := k15.below hd
       exact Dd (Qi rfl Qv rfl (k15.cell (k := 0) rfl)) rfl
      refine Dc (fun Wd hd => ?_) ?_
      .
       exact Dd (Fy (r := (Zg ((z.take 6).drop n)) * 256) rfl rfl rfl (by decide) (by decide) (by rw [show ((8 : Int)).toNat = 8 from rfl]; exact Qm (by omega))) rfl
      refine Dc (fun Wd hd => ?_) ?_
      .
       exact Dd (Qt rfl rfl) rfl
      refine Dc (fun Wd hd => ?_) ?_
      .
       exact Dd (QU (o1 := n - 1) rfl Tryd.underlying75 QA rfl rfl (by omega) (by omega)) rfl
      refine Dc (fun Wd hd => ?_) ?_
      .
       have k3 := k3.below hd
       exact Dd (Qi rfl X1 rfl (k3.cell (U1 (by omega)))) rfl
      refine Dc (fun Wd hd => ?_) ?_
      .
       exact Dd (XP (r := z[n - 1]?.getD 0) rfl Tryd.underlying5 Tryd.underlying3 rfl (Qm (by omega))) rfl
      exact trivial
     .
      intro W46 b47
      replace k3 := k3.below b47
      replace k8 := k8.below b47
      replace k15 := k15.below b47
      replace hB := Qe hB b47
      replace hL := LL.below hL b47
      refine Va (Jn (r := Zg ((z.take 6).drop (n - 1))) rfl rfl rfl ((Qcp hvn.1 (by omega) hbn).trans hvs)) rfl rfl (Va (Qn (o1 := 0) rfl Z7 rfl rfl) rfl rfl ?_)
      refine WL.do (Qh (cs' := [.int .i64 (Zg ((z.take 6).drop (n - 1))), .int .i64 0, .int .u8 0, .slice none 0 0]) (vs := [.int .i64 (Zg ((z.take 6).drop (n - 1)))]) rfl ZO rfl rfl rfl (oC rfl Qk) k15 rfl (nB rfl) rfl) rfl ?_
      rintro _ W48 ⟨k50, o49⟩
      replace k3 := k3.other o49 n18
      replace k8 := k8.other o49 n19
      clear k15
      replace hB := o49.below hB l20
      replace hL := LL.only hL o49
      refine Ni (hK45 (Rg (Pu rfl (Va (Zm (r := ((n - 1 : Nat) : Int) - 1) rfl rfl rfl (by rw [Qm (by omega)]; omega)) rfl rfl (Pu rfl (Ni ?_))))))
      exact hK40 (n - 1) ⟨(by omega), hB, hL, k3, k8, k50⟩ (by omega) (by repeat first | exact trivial | refine aR ?_ | refine aI (by omega) ?_)
    .
     replace c44 := dF c44
     refine WC.exit ?_
     refine hK38 (Sq fun K51 hK51 => (Sq fun K52 hK52 => (Rg (Pu rfl (Ni (hK52 (WC.block ?_)))))))
     replace k15 : Xc W41 W7.heap.size [.int .i64 (Zg ((z.take 6).drop n)), .int .i64 (Zg (((z.drop 8).take 4).drop 4)), .int .u8 0, .slice none 0 0] := by rw [show Zg (((z.drop 8).take 4).drop 4) = 0 by rw [List.drop_eq_nil_of_le (by omega)]; rfl]; exact k15
     refine WC.loop (fun (m : Nat) => [(1, .pointer (some ⟨w.heap.size, 0, none⟩)), (2, .pointer (some ⟨W2.heap.size, 0, none⟩)), (3, .bool false), (4, .pointer (some ⟨W7.heap.size, 0, none⟩)), (6, .int .i64 ((m : Int) - 1))]) (fun (m : Nat) W => m <= 4 /\ Below w.heap.size w W /\ LL (W7.heap.size :: W2.heap.size :: w.heap.size :: L) W /\ Xc W w.heap.size (Qr z) /\ Xc W W2.heap.size [.int .i64 0, .int .i64 0, .int .u8 0, .slice none 0 0] /\ Xc W W7.heap.size [.int .i64 (Zg ((z.take 6).drop n)), .int .i64 (Zg (((z.drop 8).take 4).drop m)), .int .u8 0, .slice none 0 0]) (fun (m : Nat) => m) 4 (by repeat first | exact trivial | refine aR ?_ | refine aI (by omega) ?_) ⟨(Nat.le_refl _), hB, hL, k3, k8, k15⟩ ?_
     clear k3 k8 k15 hB hL
     rintro K53 m W54 ⟨hm, hB, hL, k3, k8, k15⟩ hK53
     refine Sq fun K55 hK55 => (Sq fun K56 hK56 => (Rg (Pu rfl (Va (Yr rfl rfl rfl) rfl rfl (Ni (hK56 ?_))))))
     refine WC.cond rfl (fun c57 => ?_) (fun c57 => ?_)
     .
      replace c57 := dT c57
      refine WC.skip (hK55 (Sq fun K58 hK58 => (WC.block ?_)))
      have hbn := V7 hbz (8 + (m - 1))
      have hvn := Qad hb4s (n := m) (m := 4) (by omega)
      have hpw : (2 : Int) ^ (8 * 4) = 4294967296 := by decide
      rw [hpw] at hvn
      have hvs : z[8 + (m - 1)]?.getD 0 + 256 * Zg (((z.drop 8).take 4).drop m) = Zg (((z.drop 8).take 4).drop (m - 1)) := by rw [Ez (by omega) (by omega), Dz (by omega), List.getElem?_drop]
      refine dM 8 [(some 38, .is (.pointer (some ⟨W7.heap.size, 1, none⟩))), (some 39, .is (.int .i64 (Zg (((z.drop 8).take 4).drop m)))), (some 40, .is (.int .i64 ((Zg (((z.drop 8).take 4).drop m)) * 256))), (some 41, .is (.int .i64 ((m : Int) - 1))), (some 42, .is (.int .i64 (8 + ((m : Int) - 1)))), (some 43, .is (.pointer (some ⟨w.heap.size, (8 + (m - 1)), none⟩))), (some 44, .is (.int .u8 (z[8 + (m - 1)]?.getD 0))), (some 45, .is (.int .i64 (z[8 + (m - 1)]?.getD 0)))] [[], [0], [1], [], [3], [4], [5], [6]] (by exact trivial) ?_ ?_
      .
       refine Dc (fun Wd hd => ?_) ?_
       .
        exact Dd (Qn (o1 := 1) rfl Y9 rfl rfl) rfl
       refine Dc (fun Wd hd => ?_) ?_
       .
        have k15 := k15.below hd
        exact Dd (Qi rfl Qv rfl (k15.cell (k := 1) rfl)) rfl
       refine Dc (fun Wd hd => ?_) ?_
       .
        exact Dd (Fy (r := (Zg (((z.drop 8).take 4).drop m)) * 256) rfl rfl rfl (by decide) (by decide) (by rw [show ((8 : Int)).toNat = 8 from rfl]; exact Qm (by omega))) rfl
       refine Dc (fun Wd hd => ?_) ?_
       .
        exact Dd (Qt rfl rfl) rfl
       refine Dc (fun Wd hd => ?_) ?_
       .
        exact Dd (QR (r := 8 + ((m : Int) - 1)) rfl rfl rfl (Qm (by omega))) rfl
       refine Dc (fun Wd hd => ?_) ?_
       .
        exact Dd (QU (o1 := 8 + (m - 1)) rfl Tryd.underlying75 QA rfl rfl (by omega) (by omega)) rfl
       refine Dc (fun Wd hd => ?_) ?_
       .
        have k3 := k3.below hd
        exact Dd (Qi rfl X1 rfl (k3.cell (U1 (by omega)))) rfl
       refine Dc (fun Wd hd => ?_) ?_
       .
        exact Dd (XP (r := z[8 + (m - 1)]?.getD 0) rfl Tryd.underlying5 Tryd.underlying3 rfl (Qm (by omega))) rfl
       exact trivial
      .
       intro W59 b60
       replace k3 := k3.below b60
       replace k8 := k8.below b60
       replace k15 := k15.below b60
       replace hB := Qe hB b60
       replace hL := LL.below hL b60
       refine Va (Jn (r := Zg (((z.drop 8).take 4).drop (m - 1))) rfl rfl rfl ((Qcp hvn.1 (by omega) hbn).trans hvs)) rfl rfl (Va (Qn (o1 := 1) rfl Y9 rfl rfl) rfl rfl ?_)
       refine WL.do (Qh (cs' := [.int .i64 (Zg ((z.take 6).drop n)), .int .i64 (Zg (((z.drop 8).take 4).drop (m - 1))), .int .u8 0, .slice none 0 0]) (vs := [.int .i64 (Zg (((z.drop 8).take 4).drop (m - 1)))]) rfl ZO rfl rfl rfl (oC rfl Qk) k15 rfl (nB rfl) rfl) rfl ?_
       rintro _ W61 ⟨k63, o62⟩
       replace k3 := k3.other o62 n18
       replace k8 := k8.other o62 n19
       clear k15
       replace hB := o62.below hB l20
       replace hL := LL.only hL o62
       refine Ni (hK58 (Rg (Pu rfl (Va (Zm (r := ((m - 1 : Nat) : Int) - 1) rfl rfl rfl (by rw [Qm (by omega)]; omega)) rfl rfl (Pu rfl (Ni ?_))))))
       exact hK53 (m - 1) ⟨(by omega), hB, hL, k3, k8, k63⟩ (by omega) (by repeat first | exact trivial | refine aR ?_ | refine aI (by omega) ?_)
     .
      replace c57 := dF c57
      refine WC.exit ?_
      refine hK51 (Sq fun K64 hK64 => ?_)
      have hn0 : n = 0 := by omega
      have hm0 : m = 0 := by omega
      have hq100 : q <= 100 := by omega
      have hdl : ((z.drop 14).take q).length = q := U8 hz (by omega)
      refine Rg (Va (QU (o1 := 13) rfl Tryd.underlying75 QA rfl rfl (by omega) (by first | (simp; done) | omega)) rfl rfl (Va (Qi rfl X1 rfl (k3.cell (k := 13) (U1 (by rw [show z.length = 128 from hz]; exact (by omega))))) rfl rfl (Va (Qn (o1 := 2) rfl Zx rfl rfl) rfl rfl ?_)))
      refine WL.do (Qh (cs' := [.int .i64 (Zg ((z.take 6).drop n)), .int .i64 (Zg (((z.drop 8).take 4).drop m)), .int .u8 (z[13]?.getD 0), .slice none 0 0]) (vs := [.int .u8 (z[13]?.getD 0)]) rfl QA rfl rfl rfl (oC rfl Qk) k15 rfl (nB rfl) rfl) rfl ?_
      rintro _ W65 ⟨k67, o66⟩
      replace k3 := k3.other o66 n18
      replace k8 := k8.other o66 n19
      clear k15
      replace hB := o66.below hB l20
      refine Ni (hK64 (Sq fun K68 hK68 => (Rg ?_)))
      refine Ge (Gh rfl X2 (by decide)) rfl rfl ?_
      rintro u73 W69 ⟨k70, b71, z72⟩
      have n74 : w.heap.size ≠ W65.heap.size := Nat.ne_of_lt k3.lt
      have n75 : W2.heap.size ≠ W65.heap.size := Nat.ne_of_lt k8.lt
      have n76 : W7.heap.size ≠ W65.heap.size := Nat.ne_of_lt k67.lt
      have l77 := hB.size
      replace k3 := k3.below b71
      replace k8 := k8.below b71
      replace k67 := k67.below b71
      replace hB := Qe hB b71
      refine Va (QU (o1 := 12) rfl Tryd.underlying75 QA rfl rfl (by omega) (by first | (simp; done) | omega)) rfl rfl (Va (Qi rfl X1 rfl (k3.cell (k := 12) (U1 (by rw [show z.length = 128 from hz]; exact (by omega))))) rfl rfl (Va (XP (r := z[12]?.getD 0) rfl Tryd.underlying5 Tryd.underlying3 rfl (Qm (by omega))) rfl rfl (Va (QR (r := 14 + (z[12]?.getD 0)) rfl rfl rfl (Qm (by omega))) rfl rfl (Va (VN (o1 := 14) (m := q) (c := 114) 14 (14 + q) rfl Tryd.underlying75 QA rfl rfl rfl (by omega) (by omega) (by omega) (by omega) (by omega) rfl (by omega) rfl) rfl rfl ?_))))
      refine Ge (Vx (rs := []) (news := (Vw ((z.drop 14).take q))) rfl X2 rfl rfl k70 (JQ k3 14 q 114 (by omega) (by omega) (by unfold maxLen; omega)) (QfG ((z.drop 14).take q)) (by rw [List.length_nil, List.length_map, hdl]; unfold maxLen; omega) (by rw [List.length_nil, List.length_map, hdl]; omega)) rfl rfl ?_
      rintro u81 W78 ⟨B82, k79, g80⟩
      have n84 : W2.heap.size ≠ B82 := k8.grow_ne g80 n75
      have n85 : W7.heap.size ≠ B82 := k67.grow_ne g80 n76
      have l86 := g80.le l77 hB.size
      replace k3 := k3.grow g80 n74
      replace k8 := k8.grow g80 n75
      replace k67 := k67.grow g80 n76
      replace hB := g80.below hB l77 hB.size
      rw [List.nil_append] at k79
      refine Va (Qn (o1 := 3) rfl Y8 rfl rfl) rfl rfl ?_
      refine WL.do (Qh (cs' := [.int .i64 (Zg ((z.take 6).drop n)), .int .i64 (Zg (((z.drop 8).take 4).drop m)), .int .u8 (z[13]?.getD 0), u81]) (vs := [u81]) rfl Fb rfl rfl (Ux k79.one) (oC k79.one Qk) k67 rfl (nB rfl) rfl) rfl ?_
      rintro _ W87 ⟨k89, o88⟩
      replace k3 := k3.other o88 n18
      replace k8 := k8.other o88 n19
      replace k79 := k79.other o88 n85.symm
      clear k67
      replace hB := o88.below hB l20
      refine Ni (hK68 (Sq fun K90 hK90 => (Sq fun K91 hK91 => ?_)))
      have hpg : Zg ((z.take 6).drop n) = (Ub z).gen := by rw [hn0, List.drop_zero]; exact (Qd1 hz hbz (by first | assumption | omega | simp_all) (by first | assumption | omega | simp_all)).symm
      have hpi : Zg (((z.drop 8).take 4).drop m) = (Ub z).idx := by rw [hm0, List.drop_zero]; exact (Qd2 hz hbz).symm
      rw [hpg, hpi] at k89
      have hpd : (Ub z).dat = ((z.drop 14).take q) := by show (z.drop 14).take (z[12]?.getD 0).toNat = _; rw [hq]; rfl
      have hpm : (Ub z).mks = z[13]?.getD 0 := rfl
      replace k89 : Xc W87 W7.heap.size [.int .i64 (Ub z).gen, .int .i64 (Ub z).idx, .int .u8 (Ub z).mks, u81] := k89
      obtain ⟨b92, hb92⟩ : ∃ b, b = (decide ((Ub z).gen < 1)) := ⟨_, rfl⟩
      obtain ⟨b93, hb93⟩ : ∃ b, b = (b92 || (decide (1099511627776 < (Ub z).gen))) := ⟨_, rfl⟩
      obtain ⟨b94, hb94⟩ : ∃ b, b = (b93 || (decide (3 < (Ub z).mks))) := ⟨_, rfl⟩
      refine dM 19 [(some 59, .is (.pointer (some ⟨W7.heap.size, 0, none⟩))), (some 60, .is (.int .i64 ((Ub z).gen))), (some 61, .is (.bool (decide ((Ub z).gen < 1)))), (some 62, .is (.bool b92)), (some 63, .is (bif b92 then undef else .pointer (some ⟨W7.heap.size, 0, none⟩))), (some 64, .is (bif b92 then undef else .int .i64 ((Ub z).gen))), (some 65, .is (bif b92 then undef else .bool (decide (1099511627776 < (Ub z).gen)))), (some 66, .is (.bool (b92 || (decide (1099511627776 < (Ub z).gen))))), (some 67, .is (.bool b93)), (some 68, .is (bif b93 then undef else .pointer (some ⟨W7.heap.size, 2, none⟩))), (some 69, .is (bif b93 then undef else .int .u8 ((Ub z).mks))), (some 70, .is (bif b93 then undef else .bool (decide (3 < (Ub z).mks)))), (some 71, .is (.bool (b93 || (decide (3 < (Ub z).mks))))), (some 72, .is (.bool b94)), (some 73, .is (bif b94 then undef else .agg #[.int .i64 ((Ub z).gen), .int .i64 ((Ub z).idx), .int .u8 ((Ub z).mks), u81])), (some 74, .is (bif b94 then undef else .agg (Qr (Xk (Ub z))).toArray)), (some 75, .is (bif b94 then undef else .agg (Qr z).toArray)), (some 76, .is (bif b94 then undef else .bool (!(decide ((Xk (Ub z)) = z))))), (some 77, .is (.bool (b94 || (!(decide ((Xk (Ub z)) = z))))))] [[], [0], [1], [2], [3], [4, 3], [5, 3], [3, 6], [7, 3], [8], [9, 8], [10, 8], [8, 11], [12, 8], [13], [14, 13, 13], [13], [15, 16, 13], [13, 17]] (by exact trivial) ?_ ?_
      .
       refine Dc (fun Wd hd => ?_) ?_
       .
        exact Dd (Qn (o1 := 0) rfl Z7 rfl rfl) rfl
       refine Dc (fun Wd hd => ?_) ?_
       .
        have k89 := k89.below hd
        exact Dd (Qi rfl Qv rfl (k89.cell (k := 0) rfl)) rfl
       refine Dc (fun Wd hd => ?_) ?_
       .
        exact Dd (Xe rfl rfl rfl) rfl
       refine Dc (fun Wd hd => ?_) ?_
       .
        exact DV.dr (Qt rfl rfl) ⟨Below.refl _ _, by rw [hb92]; rfl⟩
       refine Dc (fun Wd hd => ?_) ?_
       .
        cases b92
        .
         exact Dd (Qn (o1 := 0) rfl Z7 rfl rfl) rfl
        .
         exact Dd (Xb rfl) rfl
       refine Dc (fun Wd hd => ?_) ?_
       .
        cases b92
        .
         have k89 := k89.below hd
         exact Dd (Qi rfl Qv rfl (k89.cell (k := 0) rfl)) rfl
        .
         exact Dd (Xb rfl) rfl
       refine Dc (fun Wd hd => ?_) ?_
       .
        cases b92
        .
         exact Dd (XL rfl rfl rfl) rfl
        .
         exact Dd (Xb rfl) rfl
       refine Dc (fun Wd hd => ?_) ?_
       .
        cases b92
        .
         exact Dd (ZT rfl rfl rfl) rfl
        .
         exact Dd (ZT rfl rfl rfl) rfl
       refine Dc (fun Wd hd => ?_) ?_
       .
        exact DV.dr (Qt rfl rfl) ⟨Below.refl _ _, by rw [hb93]; rfl⟩
       refine Dc (fun Wd hd => ?_) ?_
       .
        cases b93
        .
         exact Dd (Qn (o1 := 2) rfl Zx rfl rfl) rfl
        .
         exact Dd (Xb rfl) rfl
       refine Dc (fun Wd hd => ?_) ?_
       .
        cases b93
        .
         have k89 := k89.below hd
         exact Dd (Qi rfl X1 rfl (k89.cell (k := 2) rfl)) rfl
        .
         exact Dd (Xb rfl) rfl
       refine Dc (fun Wd hd => ?_) ?_
       .
        cases b93
        .
         exact Dd (XL rfl rfl rfl) rfl
        .
         exact Dd (Xb rfl) rfl
       refine Dc (fun Wd hd => ?_) ?_
       .
        cases b93
        .
         exact Dd (ZT rfl rfl rfl) rfl
        .
         exact Dd (ZT rfl rfl rfl) rfl
       refine Dc (fun Wd hd => ?_) ?_
       .
        exact DV.dr (Qt rfl rfl) ⟨Below.refl _ _, by rw [hb94]; rfl⟩
       refine Dc (fun Wd hd => ?_) ?_
       .
        cases b94
        .
         have k89 := k89.below hd
         exact Dd (Qg rfl XD rfl k89.range rfl) rfl
        .
         exact Dd (Xb rfl) rfl
       refine Dc (fun Wd hd => ?_) ?_
       .
        cases b94
        .
         have k79 := k79.below hd
         exact DR.mono (QQ rfl Tryd.func67 rfl rfl rfl (DC (Ub z) _ Wd [] (LL.nil _) (by rw [hpd]; exact (k79.rd (L := []) (by simp))) (by rw [hpd]; exact V2 hbz _ _) (by rw [hpd, hdl]; omega) (by rw [hpm]; exact hb13) (hR.below (Qe hB hd)))) (fun v W' ⟨h, hb⟩ => ⟨hb, (by rw [h]; exact rfl)⟩)
        .
         exact Dd (Xb rfl) rfl
       refine Dc (fun Wd hd => ?_) ?_
       .
        cases b94
        .
         have hkz := k3.below hd
         exact Dd (Qg rfl QF rfl hkz.range (by rw [Qo]; exact hz)) rfl
        .
         exact Dd (Xb rfl) rfl
       refine Dc (fun Wd hd => ?_) ?_
       .
        cases b94
        .
         exact Dd (D8 (K := .u8) (xs := (Xk (Ub z))) (ys := z) rfl Tryd.underlying75 Tryd.underlying5 QA (by kernel_rfl) rfl rfl (Z8 (by rw [hpd, hdl]; omega)) hz) rfl
        .
         exact Dd (Xb rfl) rfl
       refine Dc (fun Wd hd => ?_) ?_
       .
        cases b94
        .
         exact Dd (ZT rfl rfl rfl) rfl
        .
         exact Dd (ZT rfl rfl rfl) rfl
       exact trivial
      .
       intro W95 b96
       replace k8 := k8.below b96
       replace k89 := k89.below b96
       replace k79 := k79.below b96
       replace hB := Qe hB b96
       refine Ni (hK91 ?_)
       refine WC.cond rfl (fun c97 => ?_) (fun c97 => ?_)
       .
        refine Sq fun K98 hK98 => (Rg (Va (QS rfl rfl Qbi) rfl rfl ?_))
        refine WL.do (Qh (cs' := [.int .i64 0, .int .i64 0, .int .u8 0, .slice none 0 0]) (vs := [.int .i64 0, .int .i64 0, .int .u8 0, .slice none 0 0]) rfl ZN rfl rfl rfl (oC rfl (oC rfl (oC rfl (oC rfl Qk)))) k8 rfl (nB rfl) rfl) rfl ?_
        rintro _ W99 ⟨k101, o100⟩
        clear k8
        replace hB := o100.below hB l12
        refine Pu rfl (Ni (hK98 ?_))
        exact WC.ret fun a_ ha_ => hQ (QO rfl (.agg rfl XD k101.range rfl) (.tmp rfl) ⟨⟨0, 0, 0, []⟩, _, false, rfl, QD.nil (by decide), Qex (by by_cases hbad : VR z; exact .inl hbad; refine .inr fun hs => ?_; unfold VR at hbad; have hgg : (Ub z).gen = X9 ((z.drop 0).take 8) := rfl; rw [<- hgg, <- hpm] at hbad; first | omega | (simp_all; done) | (simp_all; omega)), fun x hx => (by cases hx), by show 0 <= 100; omega, by show (0 : Int) <= 0 /\ (0 : Int) <= 255; omega⟩ hB ha_)
       .
        obtain ⟨g102, g103⟩ := Qaj c97
        replace g102 := ZY g102
        replace g103 := Q2 g103
        replace g103 := dT g103
        refine WC.skip (hK90 (Sq fun K104 hK104 => (Rg (Va (Qg rfl XD rfl k89.range rfl) rfl rfl ?_))))
        refine WL.do (Qh (cs' := [.int .i64 ((Ub z).gen), .int .i64 ((Ub z).idx), .int .u8 ((Ub z).mks), u81]) (vs := [.int .i64 ((Ub z).gen), .int .i64 ((Ub z).idx), .int .u8 ((Ub z).mks), u81]) rfl ZN rfl rfl rfl (oC rfl (oC rfl (oC rfl (oC k79.one Qk)))) k8 rfl (nB rfl) rfl) rfl ?_
        rintro _ W105 ⟨k107, o106⟩
        replace k79 := k79.other o106 n84.symm
        clear k8
        replace hB := o106.below hB l12
        refine Pu rfl (Ni (hK104 ?_))
        exact WC.ret fun a_ ha_ => hQ (QO rfl (.agg rfl XD k107.range rfl) (.tmp rfl) ⟨Ub z, _, true, rfl, by rw [hpd]; exact (k79.rd (fun h_ => by have := hL0 _ h_; have := l86; omega)), (by have hnb : ¬ VR z := (by unfold VR; have hgg : (Ub z).gen = X9 ((z.drop 0).take 8) := rfl; rw [<- hgg, <- hpm]; first | omega | (simp_all; done) | (simp_all; omega)); have h_ := QbC hnb rfl; rw [decide_eq_true (by first | assumption | (simp_all; done))] at h_; exact h_), by rw [hpd]; exact V2 hbz _ _, by rw [hpd, hdl]; exact hq100, by rw [hpm]; exact hb13⟩ hB ha_)

theorem QaC {n : Int} (h : ¬ n < 0) (h2 : ¬ 4096 < n) : ZD n = if (1 : Int) < (n + 99) / 100 then (n + 99) / 100 else 1 := by
 unfold ZD
 rw [if_neg (show ¬ (n < 0 \/ 4096 < n) by omega)]
 split <;> split <;> omega
set_option maxHeartbeats 1000000 in
theorem DB (n : Int) (w : World) (L : List Nat) (hL : LL L w)   (hn : -9223372036854775808 <= n /\ n <= 9223372036854775807) : CV Tryd.prog 23 [.int .i64 n] w fun v W => v = .int .i64 (ZD n) := by
 refine QN (N := 13) (f := [(0, .int .i64 n)]) Tryd.func23 rfl rfl rfl rfl fun Q hQ hE => ?_
 have hB := Below.refl w.heap.size w
 refine Sq fun K1 hK1 => (Rg (Pu rfl (Ni (hK1 (Sq fun K2 hK2 => (Sq fun K3 hK3 => (Rg ?_)))))))
 refine Pu rfl (Va (Xe rfl rfl rfl) rfl rfl (Pu rfl ?_))
 refine WL.split 5 rfl (fun g4 => ?_) (fun g4 => ?_)
 .
  replace g4 := dT g4
  refine Of rfl (Of rfl (Pu rfl (Ni (hK3 (WC.condT rfl (Sq fun K5 hK5 => (Rg ?_)))))))
  refine Pu rfl (Ni (hK5 ?_))
  exact WC.ret fun a_ ha_ => hQ (QI rfl (.tmp rfl) (by rw [U9 (by omega)]) hB ha_)
 .
  replace g4 := dF g4
  refine Pu rfl (Va (XL rfl rfl rfl) rfl rfl (Pu rfl (Ni (hK3 ?_))))
  refine WC.cond rfl (fun c6 => ?_) (fun c6 => ?_)
  .
   replace c6 := dT c6
   refine Sq fun K7 hK7 => (Rg (Pu rfl (Ni (hK7 ?_))))
   exact WC.ret fun a_ ha_ => hQ (QI rfl (.tmp rfl) (by rw [U9 (by omega)]) hB ha_)
  .
   replace c6 := dF c6
   refine WC.skip (hK2 (Sq fun K8 hK8 => (Rg (Pu rfl (Va (QR (r := n + 99) rfl rfl rfl (Qm (by omega))) rfl rfl (Va (Y3 (r := (n + 99) / 100) rfl rfl rfl (by omega) (by rw [Int.tdiv_eq_ediv_of_nonneg (by omega)]; exact (Qm (by omega)))) rfl rfl (Va (FA (K := .i64) (m := 1) (n := (n + 99) / 100) rfl rfl rfl) rfl rfl ?_)))))))
   refine Pu rfl (Ni (hK8 ?_))
   exact WC.ret fun a_ ha_ => hQ (QI rfl (.tmp rfl) (by rw [QaC (by omega) (by omega)]) hB ha_)

theorem Vv {n half gen used : Int} : ZS n half gen used = 0 ↔ ((half = 0 \/ half = 1) /\ 1 <= gen /\ gen <= 1099511627776 /\ 1 <= used /\ used <= n / 2) := by
  unfold ZS
  constructor
  . intro h
    split at h
    . cases h
    . omega
  . intro h
    rw [if_neg (by omega)]
set_option maxHeartbeats 1000000 in
theorem QdK (Qb : List (List Int)) (Qa : List (Int × List Int)) (Qd : Int) (Qc : Bool) (s1 s2 : Value) (w : World) (L : List Nat) (hL : LL L w) (h1 : QD 128 L w s1 (Qb.map Qr)) (h2 : QD 129 L w s2 (Qa.map QG)) : CV Tryd.prog 34 [.agg #[s1, s2, .int .i64 Qd, .bool Qc]] w fun v W => v = .bool (QM Qb Qa && decide (8 <= (Qb.length : Int))) := by
 refine QN (N := 11) (f := [(0, .agg #[s1, s2, .int .i64 Qd, .bool Qc])]) Tryd.func34 rfl rfl rfl rfl fun Q hQ hE => ?_
 have hB := Below.refl w.heap.size w
 have h1m : Qb.length <= maxLen := by have := h1.len; rwa [List.length_map] at this
 unfold maxLen at h1m
 have h2m : Qa.length <= maxLen := by have := h2.len; rwa [List.length_map] at this
 unfold maxLen at h2m
 refine Sq fun K1 hK1 => (Rg ?_)
 refine Ge (Xa rfl rfl rfl) rfl rfl ?_
 rintro _ W2 ⟨rfl, k3, b4, z5⟩
 have l6 := hB.size
 replace h1 := h1.more b4 (Nat.le_refl _)
 replace h2 := h2.more b4 (Nat.le_refl _)
 replace hB := Qe hB b4
 replace hL := LL.more hL z5
 refine Pu rfl (Ni (hK1 (Sq fun K7 hK7 => (Rg (Va (Qg rfl Qf rfl k3.range rfl) rfl rfl ?_)))))
 refine Ge (QQ rfl Tryd.func56 rfl rfl rfl (JY Qb Qa Qd Qc _ _ W2 _ hL h1 h2)) rfl rfl ?_
 rintro _ W9 ⟨rfl, b8⟩
 replace h1 := h1.below b8
 replace k3 := k3.below b8
 replace hB := Qe hB b8
 refine Pu rfl ?_
 refine WL.split 5 rfl (fun g10 => ?_) (fun g10 => ?_)
 .
  refine Va (Qn (o1 := 0) rfl QE rfl rfl) rfl rfl (Va (Qi rfl Q7 rfl (k3.cell (k := 0) rfl)) rfl rfl (Va (QT rfl QW rfl h1) rfl rfl (Va (Yr rfl rfl rfl) rfl rfl (Pu rfl (Pu rfl (Ni (hK7 ?_)))))))
  exact WC.ret fun a_ ha_ => hQ (QI rfl (.tmp rfl) (by cases hr_ : QM Qb Qa <;> simp_all) hB ha_)
 .
  refine Of rfl (Of rfl (Of rfl (Of rfl (Pu rfl (Pu rfl (Ni (hK7 ?_)))))))
  exact WC.ret fun a_ ha_ => hQ (QI rfl (.tmp rfl) (by cases hr_ : QM Qb Qa <;> simp_all) hB ha_)

set_option maxHeartbeats 1000000 in
theorem QaH (Qb : List (List Int)) (Qa : List (Int × List Int)) (Qd : Int) (Qc : Bool) (s1 s2 : Value) (half gen used : Int) (w : World) (L : List Nat) (hL : LL L w) (h1 : QD 128 L w s1 (Qb.map Qr)) (h2 : QD 129 L w s2 (Qa.map QG))  (hsl : Qb.length <= 100000) : CV Tryd.prog 45 [.agg #[s1, s2, .int .i64 Qd, .bool Qc], .agg #[.int .i64 half, .int .i64 gen, .int .i64 used]] w fun v W => ∃ b, v = .bool b /\ (b = true ↔ ZS (Qb.length : Int) half gen used = 0) := by
 refine QN (N := 37) (f := [(0, .agg #[s1, s2, .int .i64 Qd, .bool Qc]), (1, .agg #[.int .i64 half, .int .i64 gen, .int .i64 used])]) Tryd.func45 rfl rfl rfl rfl fun Q hQ hE => ?_
 have hB := Below.refl w.heap.size w
 have h1m : Qb.length <= maxLen := by have := h1.len; rwa [List.length_map] at this
 unfold maxLen at h1m
 have h2m : Qa.length <= maxLen := by have := h2.len; rwa [List.length_map] at this
 unfold maxLen at h2m
 refine Sq fun K1 hK1 => (Rg ?_)
 refine Ge (Xa rfl rfl rfl) rfl rfl ?_
 rintro _ W2 ⟨rfl, k3, b4, z5⟩
 have l6 := hB.size
 replace h1 := h1.more b4 (Nat.le_refl _)
 replace hB := Qe hB b4
 refine Ge (Xa rfl rfl rfl) rfl rfl ?_
 rintro _ W7 ⟨rfl, k8, b9, z10⟩
 have l12 := hB.size
 replace h1 := h1.more b9 (Nat.le_refl _)
 replace k3 := k3.below b9
 replace hB := Qe hB b9
 refine Pu rfl (Ni (hK1 (Sq fun K13 hK13 => (Rg (Va (Qn (o1 := 0) rfl ZC rfl rfl) rfl rfl (Va (Qi rfl Qv rfl (k8.cell (k := 0) rfl)) rfl rfl (Va (Zw rfl rfl rfl) rfl rfl ?_)))))))
 refine Pu rfl ?_
 refine WL.split 8 rfl (fun g14 => ?_) (fun g14 => ?_)
 .
  replace g14 := dT g14
  refine Of rfl (Of rfl (Of rfl (Pu rfl (Pu rfl (Va (Qn (o1 := 1) rfl XY rfl rfl) rfl rfl (Va (Qi rfl Qv rfl (k8.cell (k := 1) rfl)) rfl rfl (Va (Yr rfl rfl rfl) rfl rfl ?_)))))))
  refine Pu rfl (Pu rfl ?_)
  refine WL.split 18 rfl (fun g15 => ?_) (fun g15 => ?_)
  .
   replace g15 := dT g15
   refine Va (Qn (o1 := 1) rfl XY rfl rfl) rfl rfl (Va (Qi rfl Qv rfl (k8.cell (k := 1) rfl)) rfl rfl (Va (Hc rfl rfl rfl) rfl rfl (Pu rfl (Pu rfl ?_))))
   refine WL.split 23 rfl (fun g16 => ?_) (fun g16 => ?_)
   .
    replace g16 := dT g16
    refine Va (Qn (o1 := 2) rfl XB rfl rfl) rfl rfl (Va (Qi rfl Qv rfl (k8.cell (k := 2) rfl)) rfl rfl (Va (Yr rfl rfl rfl) rfl rfl (Pu rfl (Pu rfl ?_))))
    refine WL.split 28 rfl (fun g17 => ?_) (fun g17 => ?_)
    .
     replace g17 := dT g17
     refine Va (Qn (o1 := 2) rfl XB rfl rfl) rfl rfl (Va (Qi rfl Qv rfl (k8.cell (k := 2) rfl)) rfl rfl (Va (Qn (o1 := 0) rfl QE rfl rfl) rfl rfl (Va (Qi rfl Q7 rfl (k3.cell (k := 0) rfl)) rfl rfl (Va (QT rfl QW rfl h1) rfl rfl (Va (Y3 (r := (Qb.length : Int) / 2) rfl rfl rfl (by omega) (by rw [Int.tdiv_eq_ediv_of_nonneg (by omega)]; exact (Qm (by omega)))) rfl rfl (Va (Hc rfl rfl rfl) rfl rfl (Pu rfl ?_)))))))
     refine Pu rfl (Ni (hK13 ?_))
     exact WC.ret fun a_ ha_ => hQ (QI rfl (.tmp rfl) ⟨_, rfl, by rw [Vv]; constructor <;> intro h_ <;> first | omega | (cases h_; done) | (simp at h_; omega) | (simp; omega) | (simp_all; omega)⟩ hB ha_)
    .
     replace g17 := dF g17
     refine Of rfl (Of rfl (Of rfl (Of rfl (Of rfl (Of rfl (Of rfl (Pu rfl ?_)))))))
     refine Pu rfl (Ni (hK13 ?_))
     exact WC.ret fun a_ ha_ => hQ (QI rfl (.tmp rfl) ⟨_, rfl, by rw [Vv]; constructor <;> intro h_ <;> first | omega | (cases h_; done) | (simp at h_; omega) | (simp; omega) | (simp_all; omega)⟩ hB ha_)
   .
    replace g16 := dF g16
    refine Of rfl (Of rfl (Of rfl (Pu rfl (Pu rfl (Of rfl (Of rfl (Of rfl ?_)))))))
    refine Of rfl (Of rfl (Of rfl (Of rfl (Pu rfl (Pu rfl (Ni (hK13 ?_)))))))
    exact WC.ret fun a_ ha_ => hQ (QI rfl (.tmp rfl) ⟨_, rfl, by rw [Vv]; constructor <;> intro h_ <;> first | omega | (cases h_; done) | (simp at h_; omega) | (simp; omega) | (simp_all; omega)⟩ hB ha_)
  .
   replace g15 := dF g15
   refine Of rfl (Of rfl (Of rfl (Pu rfl (Pu rfl (Of rfl (Of rfl (Of rfl ?_)))))))
   refine Pu rfl (Pu rfl (Of rfl (Of rfl (Of rfl (Of rfl (Of rfl (Of rfl ?_)))))))
   refine Of rfl (Pu rfl (Pu rfl (Ni (hK13 ?_))))
   exact WC.ret fun a_ ha_ => hQ (QI rfl (.tmp rfl) ⟨_, rfl, by rw [Vv]; constructor <;> intro h_ <;> first | omega | (cases h_; done) | (simp at h_; omega) | (simp; omega) | (simp_all; omega)⟩ hB ha_)
 .
  replace g14 := dF g14
  refine Va (Qn (o1 := 0) rfl ZC rfl rfl) rfl rfl (Va (Qi rfl Qv rfl (k8.cell (k := 0) rfl)) rfl rfl (Va (Zw rfl rfl rfl) rfl rfl (Pu rfl (Pu rfl ?_))))
  refine WL.split 13 rfl (fun g18 => ?_) (fun g18 => ?_)
  .
   replace g18 := dT g18
   refine Va (Qn (o1 := 1) rfl XY rfl rfl) rfl rfl (Va (Qi rfl Qv rfl (k8.cell (k := 1) rfl)) rfl rfl (Va (Yr rfl rfl rfl) rfl rfl (Pu rfl (Pu rfl ?_))))
   refine WL.split 18 rfl (fun g19 => ?_) (fun g19 => ?_)
   .
    replace g19 := dT g19
    refine Va (Qn (o1 := 1) rfl XY rfl rfl) rfl rfl (Va (Qi rfl Qv rfl (k8.cell (k := 1) rfl)) rfl rfl (Va (Hc rfl rfl rfl) rfl rfl (Pu rfl (Pu rfl ?_))))
    refine WL.split 23 rfl (fun g20 => ?_) (fun g20 => ?_)
    .
     replace g20 := dT g20
     refine Va (Qn (o1 := 2) rfl XB rfl rfl) rfl rfl (Va (Qi rfl Qv rfl (k8.cell (k := 2) rfl)) rfl rfl (Va (Yr rfl rfl rfl) rfl rfl (Pu rfl (Pu rfl ?_))))
     refine WL.split 28 rfl (fun g21 => ?_) (fun g21 => ?_)
     .
      replace g21 := dT g21
      refine Va (Qn (o1 := 2) rfl XB rfl rfl) rfl rfl (Va (Qi rfl Qv rfl (k8.cell (k := 2) rfl)) rfl rfl (Va (Qn (o1 := 0) rfl QE rfl rfl) rfl rfl (Va (Qi rfl Q7 rfl (k3.cell (k := 0) rfl)) rfl rfl (Va (QT rfl QW rfl h1) rfl rfl (Va (Y3 (r := (Qb.length : Int) / 2) rfl rfl rfl (by omega) (by rw [Int.tdiv_eq_ediv_of_nonneg (by omega)]; exact (Qm (by omega)))) rfl rfl (Va (Hc rfl rfl rfl) rfl rfl (Pu rfl ?_)))))))
      refine Pu rfl (Ni (hK13 ?_))
      exact WC.ret fun a_ ha_ => hQ (QI rfl (.tmp rfl) ⟨_, rfl, by rw [Vv]; constructor <;> intro h_ <;> first | omega | (cases h_; done) | (simp at h_; omega) | (simp; omega) | (simp_all; omega)⟩ hB ha_)
     .
      replace g21 := dF g21
      refine Of rfl (Of rfl (Of rfl (Of rfl (Of rfl (Of rfl (Of rfl (Pu rfl ?_)))))))
      refine Pu rfl (Ni (hK13 ?_))
      exact WC.ret fun a_ ha_ => hQ (QI rfl (.tmp rfl) ⟨_, rfl, by rw [Vv]; constructor <;> intro h_ <;> first | omega | (cases h_; done) | (simp at h_; omega) | (simp; omega) | (simp_all; omega)⟩ hB ha_)
    .
     replace g20 := dF g20
     refine Of rfl (Of rfl (Of rfl (Pu rfl (Pu rfl (Of rfl (Of rfl (Of rfl ?_)))))))
     refine Of rfl (Of rfl (Of rfl (Of rfl (Pu rfl (Pu rfl (Ni (hK13 ?_)))))))
     exact WC.ret fun a_ ha_ => hQ (QI rfl (.tmp rfl) ⟨_, rfl, by rw [Vv]; constructor <;> intro h_ <;> first | omega | (cases h_; done) | (simp at h_; omega) | (simp; omega) | (simp_all; omega)⟩ hB ha_)
   .
    replace g19 := dF g19
    refine Of rfl (Of rfl (Of rfl (Pu rfl (Pu rfl (Of rfl (Of rfl (Of rfl ?_)))))))
    refine Pu rfl (Pu rfl (Of rfl (Of rfl (Of rfl (Of rfl (Of rfl (Of rfl ?_)))))))
    refine Of rfl (Pu rfl (Pu rfl (Ni (hK13 ?_))))
    exact WC.ret fun a_ ha_ => hQ (QI rfl (.tmp rfl) ⟨_, rfl, by rw [Vv]; constructor <;> intro h_ <;> first | omega | (cases h_; done) | (simp at h_; omega) | (simp; omega) | (simp_all; omega)⟩ hB ha_)
  .
   replace g18 := dF g18
   refine Of rfl (Of rfl (Of rfl (Pu rfl (Pu rfl (Of rfl (Of rfl (Of rfl ?_)))))))
   refine Pu rfl (Pu rfl (Of rfl (Of rfl (Of rfl (Pu rfl (Pu rfl (Of rfl ?_)))))))
   refine Of rfl (Of rfl (Of rfl (Of rfl (Of rfl (Of rfl (Pu rfl (Pu rfl ?_)))))))
   refine Ni (hK13 ?_)
   exact WC.ret fun a_ ha_ => hQ (QI rfl (.tmp rfl) ⟨_, rfl, by rw [Vv]; constructor <;> intro h_ <;> first | omega | (cases h_; done) | (simp at h_; omega) | (simp; omega) | (simp_all; omega)⟩ hB ha_)

set_option maxHeartbeats 1000000 in
theorem DE (Qb : List (List Int)) (Qa : List (Int × List Int)) (Qd : Int) (Qc : Bool) (s1 s2 : Value) (w : World) (L : List Nat) (hL : LL L w) (h1 : QD 128 L w s1 (Qb.map Qr)) (h2 : QD 129 L w s2 (Qa.map QG))  (hbd : YL Qb Qa) (hsl : Qb.length <= 100000) (hR : U5 w) : CV Tryd.prog 36 [.agg #[s1, s2, .int .i64 Qd, .bool Qc]] w fun v W => v = .int .i64 (XF Qb Qa Qc Qb.length + 1) := by
 refine QN (N := 34) (f := [(0, .agg #[s1, s2, .int .i64 Qd, .bool Qc])]) Tryd.func36 rfl rfl rfl rfl fun Q hQ hE => ?_
 have hB := Below.refl w.heap.size w
 have h1m : Qb.length <= maxLen := by have := h1.len; rwa [List.length_map] at this
 unfold maxLen at h1m
 have h2m : Qa.length <= maxLen := by have := h2.len; rwa [List.length_map] at this
 unfold maxLen at h2m
 refine Sq fun K1 hK1 => (Rg ?_)
 refine Ge (Xa rfl rfl rfl) rfl rfl ?_
 rintro _ W2 ⟨rfl, k3, b4, z5⟩
 have l6 := hB.size
 replace h1 := h1.more b4 (Nat.le_refl _)
 replace h2 := h2.more b4 (Nat.le_refl _)
 replace hB := Qe hB b4
 replace hL := LL.more hL z5
 refine Pu rfl (Ni (hK1 (Sq fun K7 hK7 => (Rg (Pu rfl (Ni (hK7 ?_)))))))
 refine Sq fun K8 hK8 => (Sq fun K9 hK9 => (Rg (Pu rfl (Ni (hK9 (WC.block ?_))))))
 refine WC.loop (fun (i : Nat) => [(1, .pointer (some ⟨w.heap.size, 0, none⟩)), (4, .int .i64 (i : Int)), (3, .int .i64 (XF Qb Qa Qc i))]) (fun (i : Nat) W => i <= Qb.length /\ Below w.heap.size w W /\ LL (w.heap.size :: L) W /\ QD 128 (w.heap.size :: L) W s1 (Qb.map Qr) /\ QD 129 (w.heap.size :: L) W s2 (Qa.map QG) /\ Xc W w.heap.size [s1, s2, .int .i64 Qd, .bool Qc]) (fun (i : Nat) => Qb.length - i) 0 (by repeat first | exact trivial | refine aR ?_ | refine aI (by omega) ?_) ⟨Nat.zero_le _, hB, hL, h1, h2, k3⟩ ?_
 clear h1 h2 k3 hB hL
 rintro K10 i W11 ⟨hi, hB, hL, h1, h2, k3⟩ hK10
 refine Sq fun K12 hK12 => (Sq fun K13 hK13 => (Rg (Pu rfl (Va (Qn (o1 := 0) rfl QE rfl rfl) rfl rfl (Va (Qi rfl Q7 rfl (k3.cell (k := 0) rfl)) rfl rfl (Va (QT rfl QW rfl h1) rfl rfl (Va (Xe rfl rfl rfl) rfl rfl ?_)))))))
 refine Ni (hK13 ?_)
 refine WC.cond rfl (fun c14 => ?_) (fun c14 => ?_)
 .
  replace c14 := dT c14
  refine WC.skip (hK12 (Sq fun K15 hK15 => (WC.block (Sq fun K16 hK16 => (Rg (Va (Qg rfl Qf rfl k3.range rfl) rfl rfl (Pu rfl ?_)))))))
  refine Ge (QQ rfl Tryd.func59 rfl rfl rfl (QdE Qb Qa Qd Qc _ _ (i : Int) W11 _ hL h1 h2)) rfl rfl ?_
  rintro _ W18 ⟨rfl, b17⟩
  replace h1 := h1.below b17
  replace h2 := h2.below b17
  replace k3 := k3.below b17
  replace hB := Qe hB b17
  replace hL := LL.below hL b17
  refine Pu rfl (Pu rfl (Pu rfl ?_))
  refine Ge (Qu (cs := Qr z0) rfl ZE Yh) rfl rfl ?_
  rintro _ W19 ⟨rfl, k20, b21, z22⟩
  have n23 : w.heap.size ≠ W18.heap.size := Nat.ne_of_lt k3.lt
  have l24 := hB.size
  replace h1 := h1.more b21 (Nat.le_refl _)
  replace h2 := h2.more b21 (Nat.le_refl _)
  replace k3 := k3.below b21
  replace hB := Qe hB b21
  replace hL := LL.more hL z22
  refine WL.do (Qx (vs := (Qr ((Xn Qb Qa Qc (i : Int)).1))) rfl Q1 rfl rfl rfl (YU ((Xn Qb Qa Qc (i : Int)).1)) k20 (by rw [Qo]; exact (Yk h1 h2)) (by rw [Qo]; exact Xy)) rfl ?_
  rintro _ W25 ⟨k27, o26⟩
  replace k3 := k3.other o26 n23
  clear k20
  replace h1 := h1.only o26 (.head _)
  replace h2 := h2.only o26 (.head _)
  replace hB := o26.below hB l24
  replace hL := LL.only hL o26
  refine Pu rfl (Ni (hK16 (Sq fun K28 hK28 => (Rg (Va (Qg rfl QF rfl k27.range (by rw [Qo]; exact (Yk h1 h2))) rfl rfl ?_)))))
  refine Ge (QQ rfl Tryd.func49 rfl rfl rfl (QaG (Xn Qb Qa Qc (i : Int)).1 W25 _ hL hL (Yk h1 h2) (Kw hbd _ _) (hR.below hB))) rfl rfl ?_
  rintro _ W32 ⟨⟨p30, dvp30, ubp30, rfl, hdp30, hup30, hyp30, hlp30, hmp30⟩, b31⟩
  replace h1 := h1.below b31
  replace h2 := h2.below b31
  replace k3 := k3.below b31
  replace hB := Qe hB b31
  replace hL := LL.below hL b31
  refine Pu rfl (Pu rfl (Pu rfl ?_))
  refine Ge (Qu rfl VF rfl) rfl rfl ?_
  rintro _ W33 ⟨rfl, k34, b35, z36⟩
  have n37 : w.heap.size ≠ W32.heap.size := Nat.ne_of_lt k3.lt
  have l39 := hB.size
  replace h1 := h1.more b35 (Nat.le_refl _)
  replace h2 := h2.more b35 (Nat.le_refl _)
  replace hdp30 := hdp30.more b35 (Nat.le_refl _)
  replace k3 := k3.below b35
  replace hB := Qe hB b35
  replace hL := LL.more hL z36
  refine WL.do (Qh (cs' := [.int .i64 p30.gen, .int .i64 p30.idx, .int .u8 p30.mks, dvp30]) (vs := [.int .i64 p30.gen, .int .i64 p30.idx, .int .u8 p30.mks, dvp30]) rfl ZN rfl rfl rfl (oC rfl (oC rfl (oC rfl (oC hdp30.one Qk)))) k34 rfl (nB rfl) rfl) rfl ?_
  rintro _ W40 ⟨k42, o41⟩
  replace k3 := k3.other o41 n37
  clear k34
  replace h1 := h1.only o41 (.head _)
  replace h2 := h2.only o41 (.head _)
  replace hB := o41.below hB l39
  replace hL := LL.only hL o41
  refine Pu rfl (Ni (hK28 (Sq fun K43 hK43 => ?_)))
  have hmi := V0 Qb Qa Qc i
  cases ubp30
  .
   rw [<- Qcz hup30]
   refine Rg (Pu rfl (Ni (hK43 (WC.condF rfl (WC.skip (hK15 (Rg ?_)))))))
   refine Pu rfl (Va (QR (r := (i : Int) + 1) rfl rfl rfl (Qm (by omega))) rfl rfl (Pu rfl (Ni ?_)))
   replace hL := hL.less (fun x hx => (.tail _ (.tail _ hx)))
   replace h1 := h1.less (fun x hx => (.tail _ (.tail _ hx)))
   replace h2 := h2.less (fun x hx => (.tail _ (.tail _ hx)))
   exact hK10 (i + 1) ⟨(by omega), hB, hL, h1, h2, k3⟩ (by omega) (by repeat first | exact trivial | refine aR ?_ | refine aI (by omega) ?_)
  .
   refine Rg (Pu rfl (Ni (hK43 (WC.condT rfl (Rg (Pu rfl (Va (Qn (o1 := 0) rfl Z7 rfl rfl) rfl rfl ?_)))))))
   refine Va (Qi rfl Qv rfl (k42.cell (k := 0) rfl)) rfl rfl (Va (ZX (FA rfl rfl rfl) (congrArg (Value.int .i64) (Qcy hup30).symm)) rfl rfl (Pu rfl (Ni (hK15 (Rg (Pu rfl (Va (QR (r := (i : Int) + 1) rfl rfl rfl (Qm (by omega))) rfl rfl ?_)))))))
   refine Pu rfl (Ni ?_)
   replace hL := hL.less (fun x hx => (.tail _ (.tail _ hx)))
   replace h1 := h1.less (fun x hx => (.tail _ (.tail _ hx)))
   replace h2 := h2.less (fun x hx => (.tail _ (.tail _ hx)))
   exact hK10 (i + 1) ⟨(by omega), hB, hL, h1, h2, k3⟩ (by omega) (by repeat first | exact trivial | refine aR ?_ | refine aI (by omega) ?_)
 .
  replace c14 := dF c14
  refine WC.exit ?_
  refine hK8 (Sq fun K44 hK44 => ?_)
  have hie : i = Qb.length := by omega
  have hmi := V0 Qb Qa Qc i
  refine Rg (Pu rfl (Va (QR (r := (XF Qb Qa Qc i) + 1) rfl rfl rfl (Qm (by omega))) rfl rfl (Pu rfl (Ni (hK44 ?_)))))
  exact WC.ret fun a_ ha_ => hQ (QI rfl (.tmp rfl) (by rw [hie]) hB ha_)

end Go.Proofs.YtfachlmgdlnpoaaDoor

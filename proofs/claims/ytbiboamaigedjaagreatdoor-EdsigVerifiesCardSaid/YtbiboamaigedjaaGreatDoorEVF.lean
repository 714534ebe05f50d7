/- The reference of sha: sums by words of 64 bits. The reference's Sum512, and the sum of layer 11's parts. The reference's sum of parts, walked by the m -/
import Derived.Test.YtbiboamaigedjaaGreatDoorRows
import Derived.Lib.LaidTab
import Derived.ChangeSame
import Derived.Stop.LaidErr
import Derived.MakeChecks
import Derived.Test.YtbiboamaigedjaaGreatDoorEVE
namespace Go.Proofs.YtbiboamaigedjaaGreatDoor
open Go.RowKit
set_option linter.unusedVariables false
set_option linter.unusedSimpArgs false
set_option maxRecDepth 8000
set_option maxHeartbeats 2000000

set_option maxHeartbeats 4000000 in
theorem Qa6 (D : List Int) (sv : Value) (w : World) (L : List Nat) (hL : LL L w) (h1 : Zi 1 L w sv (D.map e8)) (hT : Yi L w)  (hDm : D.length <= 10000) (hDb : Qe D) : CV Tryz.prog 66 [sv, .int .i64 64] w fun v W => Zi 1 L W v ((Xf D).map e8) := by
  refine Qf6 (N := 280) (f := [(0, sv), (1, .int .i64 64)]) Tryz.func66 rfl rfl rfl rfl fun Q hQ hE => ?_
  have hB := Below.refl w.heap.size w
  have hL0 := hL
  have h1m : D.length <= maxLen := by have := h1.len; rwa [List.length_map] at this
  unfold maxLen at h1m
  refine WC.seq fun K1 hK1 => ?_
  refine WC.region ?_
  refine WL.val (Qv rfl rfl) rfl rfl ?_
  refine WL.nil ?_
  refine hK1 ?_
  refine WC.seq fun K2 hK2 => ?_
  refine WC.region ?_
  refine WL.val (XK rfl rfl (KA _ _ _)) rfl rfl ?_
  refine WL.val (XK rfl rfl (KA _ _ _)) rfl rfl ?_
  refine WL.val (XK rfl rfl (KA _ _ _)) rfl rfl ?_
  refine WL.val (XK rfl rfl (KA _ _ _)) rfl rfl ?_
  refine WL.val (XK rfl rfl (Qgd _ _ _ _ _ _ _ _ _ _ _ _)) rfl rfl ?_
  refine WL.get (Vp rfl Dd rfl) rfl rfl ?_
  rintro _ W3 ⟨rfl, k4, b5, z6⟩
  have l7 := hB.size
  replace h1 := h1.more b5 (Nat.le_refl _)
  replace hT := hT.more b5 (Nat.le_refl _)
  replace hB := Qy hB b5
  replace hL := LL.more hL z6
  refine WL.do (XJ (cs' := [.int .i64 2, .int .i64 13, .int .i64 22, .int .i64 6, .int .i64 11, .int .i64 25, .int .i64 7, .int .i64 18, .int .i64 3, .int .i64 17, .int .i64 19, .int .i64 10]) (vs := [.int .i64 2, .int .i64 13, .int .i64 22, .int .i64 6, .int .i64 11, .int .i64 25, .int .i64 7, .int .i64 18, .int .i64 3, .int .i64 17, .int .i64 19, .int .i64 10]) rfl Ua rfl rfl rfl (QF rfl (QF rfl (QF rfl (QF rfl (QF rfl (QF rfl (QF rfl (QF rfl (QF rfl (QF rfl (QF rfl (QF rfl VH)))))))))))) k4 rfl (Nat.le_of_ble_eq_true rfl) rfl) rfl ?_
  rintro _ W8 ⟨k10, o9⟩
  clear k4
  replace h1 := h1.only o9 (.head _)
  replace hT := hT.only o9 (.head _)
  replace hB := o9.below hB l7
  replace hL := LL.only hL o9
  refine WL.nil ?_
  refine hK2 ?_
  refine WC.seq fun K11 hK11 => ?_
  refine WC.region ?_
  refine WL.val (Qv rfl rfl) rfl rfl ?_
  refine WL.nil ?_
  refine hK11 ?_
  refine WC.seq fun K12 hK12 => ?_
  refine WC.seq fun K13 hK13 => ?_
  refine WC.region ?_
  refine WL.val (Qi rfl rfl) rfl rfl ?_
  refine WL.val (QfW rfl rfl rfl) rfl rfl ?_
  refine WL.nil ?_
  refine hK13 ?_
  refine WC.condT rfl ?_
  refine WC.seq fun K14 hK14 => ?_
  refine WC.region ?_
  refine WL.val (XK rfl rfl (KA _ _ _)) rfl rfl ?_
  refine WL.val (XK rfl rfl (KA _ _ _)) rfl rfl ?_
  refine WL.val (XK rfl rfl (KA _ _ _)) rfl rfl ?_
  refine WL.val (XK rfl rfl (KA _ _ _)) rfl rfl ?_
  refine WL.val (XK rfl rfl (Qgd _ _ _ _ _ _ _ _ _ _ _ _)) rfl rfl ?_
  refine WL.do (XJ (cs' := [.int .i64 28, .int .i64 34, .int .i64 39, .int .i64 14, .int .i64 18, .int .i64 41, .int .i64 1, .int .i64 8, .int .i64 7, .int .i64 19, .int .i64 61, .int .i64 6]) (vs := [.int .i64 28, .int .i64 34, .int .i64 39, .int .i64 14, .int .i64 18, .int .i64 41, .int .i64 1, .int .i64 8, .int .i64 7, .int .i64 19, .int .i64 61, .int .i64 6]) rfl Ua rfl rfl rfl (QF rfl (QF rfl (QF rfl (QF rfl (QF rfl (QF rfl (QF rfl (QF rfl (QF rfl (QF rfl (QF rfl (QF rfl VH)))))))))))) k10 rfl (Nat.le_of_ble_eq_true rfl) rfl) rfl ?_
  rintro _ W15 ⟨k17, o16⟩
  clear k10
  replace h1 := h1.only o16 (.head _)
  replace hT := hT.only o16 (.head _)
  replace hB := o16.below hB l7
  replace hL := LL.only hL o16
  refine WL.nil ?_
  refine hK14 ?_
  refine WC.region ?_
  refine WL.val (Qv rfl rfl) rfl rfl ?_
  refine WL.nil ?_
  refine hK12 ?_
  refine WC.seq fun K18 hK18 => ?_
  have hDl : D.length <= 10000 := hDm
  have zh1 := h1
  have zhT := hT
  have zk17 := k17
  have zhB := hB
  have zhL := hL
  have hC : ZS W15 (w.heap.size :: L) W15 := Below.refl _ _
  refine WC.region ?_
  refine WL.get (QfT rfl Zb (by decide)) rfl rfl ?_
  rintro u19 W20 ⟨b21, hE⟩
  replace h1 := h1.below b21
  replace hT := hT.below b21
  replace hC := hC.below b21
  replace k17 := k17.below b21
  replace hB := Qy hB b21
  replace hL := LL.below hL b21
  refine WL.val (Qi rfl rfl) rfl rfl ?_
  refine WL.get (QjQ (base := W15.heap.size) rfl Zb rfl rfl hE h1 (DT D) (by rw [List.length_map]; unfold maxLen; omega) (by rw [List.length_map]; omega) (Below.size hC)) rfl rfl ?_
  rintro u22 W23 ⟨b24, hN⟩
  replace h1 := h1.below b24
  replace hT := hT.below b24
  replace hC := hC.below b24
  replace k17 := k17.below b24
  replace hB := Qy hB b24
  replace hL := LL.below hL b24
  have h5 : V1 1 W15.heap.size (D.map e8) u22 W23 := hN.toV
  refine WL.get (KY (r := e8 128) rfl Zb (by decide) (by decide) rfl rfl rfl) rfl rfl ?_
  rintro x25 W26 ⟨k28, b27, z29⟩
  replace h1 := h1.below b27
  replace hT := hT.below b27
  replace hC := hC.below b27
  replace h5 := h5.below b27
  replace k17 := k17.below b27
  replace hB := Qy hB b27
  replace hL := LL.below hL b27
  have hx := k28.rd (L := []) (by simp)
  refine WL.get (Ey (base := W15.heap.size) rfl Zb rfl rfl h5 hx (DT [128]) (by simp [maxLen]; omega) (by simp; omega) (Below.size hC)) rfl rfl ?_
  rintro x30 W31 ⟨h5, FA⟩
  replace h5 : V1 1 W15.heap.size ((D ++ [128]).map e8) x30 W31 := by rw [List.map_append]; exact h5
  replace hC : ZS W15 (w.heap.size :: L) W31 := Below.trans hC FA
  replace h1 := zh1.below hC
  replace hT := zhT.below hC
  replace k17 := zk17.below hC
  replace hB := Qy zhB hC
  replace hL := LL.below zhL hC
  refine WL.val (Qv rfl rfl) rfl rfl ?_
  refine WL.nil ?_
  refine hK18 ?_
  refine WC.seq fun K33 hK33 => ?_
  refine WC.block ?_
  have hpg := J5 D.length
  refine WC.loop2 (fun (j : Nat) (ov : Value) => [(0, sv), (1, .int .i64 64), (5, .pointer (some ⟨w.heap.size, 0, none⟩)), (6, .int .i64 80), (7, ov)]) (fun (j : Nat) (ov : Value) W => j <= QD D.length - D.length - 9 /\ Below w.heap.size w W /\ LL (w.heap.size :: L) W /\ Zi 1 (w.heap.size :: L) W sv (D.map e8) /\ Yi (w.heap.size :: L) W /\ ZS W15 (w.heap.size :: L) W /\ V1 1 W15.heap.size ((D ++ 128 :: List.replicate j 0).map e8) ov W /\ Xl W w.heap.size [.int .i64 28, .int .i64 34, .int .i64 39, .int .i64 14, .int .i64 18, .int .i64 41, .int .i64 1, .int .i64 8, .int .i64 7, .int .i64 19, .int .i64 61, .int .i64 6]) (fun (j : Nat) (ov : Value) => QD D.length - j) 0 x30 (by repeat first | exact trivial | exact And.intro rfl trivial | refine And.intro rfl ?_ | refine And.intro (congrArg (fun z : Int => some (Value.int .i64 z)) (by omega)) ?_ | refine And.intro (congrArg (fun z : Bool => some (Value.bool z)) (by first | exact (decide_eq_true (by omega)).symm | exact (decide_eq_false (by omega)).symm)) ?_) ⟨Nat.zero_le _, hB, hL, h1, hT, hC, h5, k17⟩ ?_
  clear h1 hT hC h5 k17 hB hL
  rintro K34 j ov W35 ⟨hj, hB, hL, h1, hT, hC, h5, k17⟩ hK34
  have hol : (D ++ 128 :: List.replicate j 0).length = D.length + 1 + j := by simp; omega
  refine WC.seq fun K36 hK36 => ?_
  refine WC.seq fun K37 hK37 => ?_
  refine WC.region ?_
  refine WL.val (Qi rfl rfl) rfl rfl ?_
  refine WL.val (KZ rfl Z3 rfl (h5.rd (L := []) (by simp))) rfl rfl ?_
  have hln : ((D ++ 128 :: List.replicate j 0).map e8).length = (D ++ 128 :: List.replicate j 0).length := List.length_map _
  refine WL.val (Qi rfl rfl) rfl rfl ?_
  refine WL.val (KZ rfl Z3 rfl h1) rfl rfl ?_
  refine WL.val (Qi rfl rfl) rfl rfl ?_
  refine WL.get (Ur rfl Tryz.func104 rfl rfl rfl ((show CV _ _ [.int .i64 ((D.map e8).length : Int), .int .i64 64] _ (fun v _ => v = .int .i64 ((QD D.length : Nat) : Int)) from by rw [List.length_map]; have := U8 (FT (D.length : Int) 64 W35 (by omega) (by decide)); rw [DK _ (by omega)] at this; exact this))) rfl rfl ?_
  rintro _ W39 ⟨rfl, b38⟩
  replace h1 := h1.below b38
  replace hT := hT.below b38
  replace hC := hC.below b38
  replace h5 := h5.below b38
  replace k17 := k17.below b38
  replace hB := Qy hB b38
  replace hL := LL.below hL b38
  refine WL.val (Yb (r := ((QD D.length : Nat) : Int) - 8) rfl rfl rfl (QX (by omega))) rfl rfl ?_
  refine WL.val (VQ rfl rfl rfl) rfl rfl ?_
  refine WL.nil ?_
  refine hK37 ?_
  refine WC.cond rfl (fun c40 => ?_) (fun c40 => ?_)
  .
    replace c40 := of_decide_eq_true c40
    refine WC.skip ?_
    refine hK36 ?_
    refine WC.block ?_
    refine WC.region ?_
    refine WL.val (Qi rfl rfl) rfl rfl ?_
    refine WL.get (KY (r := e8 0) rfl Zb (by decide) (by decide) rfl rfl rfl) rfl rfl ?_
    rintro x41 W42 ⟨k44, b43, z45⟩
    replace h1 := h1.below b43
    replace hT := hT.below b43
    replace hC := hC.below b43
    replace h5 := h5.below b43
    replace k17 := k17.below b43
    replace hB := Qy hB b43
    replace hL := LL.below hL b43
    have hx := k44.rd (L := []) (by simp)
    refine WL.get (Ey (base := W15.heap.size) rfl Zb rfl rfl h5 hx (DT [0]) (by simp [maxLen]; omega) (by simp; omega) (Below.size hC)) rfl rfl ?_
    rintro x46 W47 ⟨h5, b48⟩
    replace h5 : V1 1 W15.heap.size (((D ++ 128 :: List.replicate j 0) ++ [0]).map e8) x46 W47 := by rw [List.map_append]; exact h5
    replace hC : ZS W15 (w.heap.size :: L) W47 := Below.trans hC b48
    replace h1 := zh1.below hC
    replace hT := zhT.below hC
    replace k17 := zk17.below hC
    replace hB := Qy zhB hC
    replace hL := LL.below zhL hC
    refine WL.val (Qv rfl rfl) rfl rfl ?_
    refine WL.nil ?_
    rw [show ((D ++ 128 :: List.replicate j 0) ++ [0]) = D ++ 128 :: List.replicate (j + 1) 0 from by rw [List.replicate_succ']; simp] at h5
    exact hK34 (j + 1) x46 ⟨(by simp only [List.length_map] at *; omega), hB, hL, h1, hT, hC, h5, k17⟩ (by simp only [List.length_map] at *; omega) (by repeat first | exact trivial | exact And.intro rfl trivial | refine And.intro rfl ?_ | refine And.intro (congrArg (fun z : Int => some (Value.int .i64 z)) (by omega)) ?_ | refine And.intro (congrArg (fun z : Bool => some (Value.bool z)) (by first | exact (decide_eq_true (by omega)).symm | exact (decide_eq_false (by omega)).symm)) ?_)
  .
    replace c40 := of_decide_eq_false c40
    refine WC.exit ?_
    refine hK33 ?_
    refine WC.seq fun K49 hK49 => ?_
    have hje : j = QD D.length - D.length - 9 := (by simp only [List.length_map] at *; omega)
    refine WC.region ?_
    refine WL.val (Qi rfl rfl) rfl rfl ?_
    refine WL.val (KZ rfl Z3 rfl h1) rfl rfl ?_
    refine WL.val (ZW (r := (D.length : Int)) rfl Tryz.underlying3 Tryz.underlying47 rfl (by rw [X7, List.length_map]; omega)) rfl rfl ?_
    refine WL.val (G5 (r := (D.length : Int) * 8) rfl rfl rfl (by rw [X7]; omega)) rfl rfl ?_
    refine WL.val (Qv rfl rfl) rfl rfl ?_
    refine WL.nil ?_
    refine hK49 ?_
    refine WC.seq fun K50 hK50 => ?_
    refine WC.seq fun K51 hK51 => ?_
    refine WC.region ?_
    refine WL.val (Qv rfl rfl) rfl rfl ?_
    refine WL.nil ?_
    refine hK51 ?_
    refine WC.block ?_
    replace h5 : V1 1 W15.heap.size (((D ++ 128 :: List.replicate j 0) ++ (Zy D.length).take 0).map e8) ov W39 := by rw [List.take_zero, List.append_nil]; exact h5
    refine WC.loop2 (fun (k : Nat) (ov2 : Value) => [(1, .int .i64 64), (5, .pointer (some ⟨w.heap.size, 0, none⟩)), (6, .int .i64 80), (8, .int .u64 ((D.length : Int) * 8)), (7, ov2), (9, .int .i64 (56 - 8 * (k : Int)))]) (fun (k : Nat) (ov2 : Value) W => k <= 8 /\ Below w.heap.size w W /\ LL (w.heap.size :: L) W /\ Zi 1 (w.heap.size :: L) W sv (D.map e8) /\ Yi (w.heap.size :: L) W /\ ZS W15 (w.heap.size :: L) W /\ V1 1 W15.heap.size (((D ++ 128 :: List.replicate j 0) ++ (Zy D.length).take k).map e8) ov2 W /\ Xl W w.heap.size [.int .i64 28, .int .i64 34, .int .i64 39, .int .i64 14, .int .i64 18, .int .i64 41, .int .i64 1, .int .i64 8, .int .i64 7, .int .i64 19, .int .i64 61, .int .i64 6]) (fun (k : Nat) (ov2 : Value) => 8 - k) 0 ov (by repeat first | exact trivial | exact And.intro rfl trivial | refine And.intro rfl ?_ | refine And.intro (congrArg (fun z : Int => some (Value.int .i64 z)) (by omega)) ?_ | refine And.intro (congrArg (fun z : Bool => some (Value.bool z)) (by first | exact (decide_eq_true (by omega)).symm | exact (decide_eq_false (by omega)).symm)) ?_) ⟨(by decide), hB, hL, h1, hT, hC, h5, k17⟩ ?_
    clear h1 hT hC h5 k17 hB hL
    rintro K52 k ov2 W53 ⟨hk, hB, hL, h1, hT, hC, h5, k17⟩ hK52
    have hol2 : ((D ++ 128 :: List.replicate j 0) ++ (Zy D.length).take k).length = D.length + 1 + j + k := by simp [Vm]; omega
    refine WC.seq fun K54 hK54 => ?_
    refine WC.seq fun K55 hK55 => ?_
    refine WC.region ?_
    refine WL.val (Qi rfl rfl) rfl rfl ?_
    refine WL.val (Qbz rfl rfl rfl) rfl rfl ?_
    refine WL.nil ?_
    refine hK55 ?_
    refine WC.cond rfl (fun c56 => ?_) (fun c56 => ?_)
    .
      replace c56 := of_decide_eq_true c56
      refine WC.skip ?_
      refine hK54 ?_
      refine WC.seq fun K57 hK57 => ?_
      refine WC.block ?_
      refine WC.region ?_
      refine WL.val (Qi rfl rfl) rfl rfl ?_
      refine WL.val (Qi rfl rfl) rfl rfl ?_
      refine WL.val (Qi rfl rfl) rfl rfl ?_
      refine WL.val (ZW (r := (56 - 8 * (k : Int))) rfl Tryz.underlying3 Tryz.underlying75 rfl (by rw [X7]; omega)) rfl rfl ?_
      refine WL.val (Et rfl rfl rfl (by omega) (by show _ <= (64 : Int); omega) rfl) rfl rfl ?_
      refine WL.val (ZW (r := Qb (Zy D.length) k) rfl Tryz.underlying47 Tryz.underlying5 rfl ((Qd0 _).trans (Qbp _ _ (by omega)))) rfl rfl ?_
      refine WL.get (KY (r := e8 (Qb (Zy D.length) k)) rfl Zb (by decide) (by decide) rfl rfl rfl) rfl rfl ?_
      rintro x58 W59 ⟨k61, b60, z62⟩
      replace h1 := h1.below b60
      replace hT := hT.below b60
      replace hC := hC.below b60
      replace h5 := h5.below b60
      replace k17 := k17.below b60
      replace hB := Qy hB b60
      replace hL := LL.below hL b60
      have hx := k61.rd (L := []) (by simp)
      refine WL.get (Ey (base := W15.heap.size) rfl Zb rfl rfl h5 hx (DT [Qb (Zy D.length) k]) (by simp [maxLen]; omega) (by simp; omega) (Below.size hC)) rfl rfl ?_
      rintro x63 W64 ⟨h5, b65⟩
      replace h5 : V1 1 W15.heap.size ((((D ++ 128 :: List.replicate j 0) ++ (Zy D.length).take k) ++ [Qb (Zy D.length) k]).map e8) x63 W64 := by rw [List.map_append]; exact h5
      replace hC : ZS W15 (w.heap.size :: L) W64 := Below.trans hC b65
      replace h1 := zh1.below hC
      replace hT := zhT.below hC
      replace k17 := zk17.below hC
      replace hB := Qy zhB hC
      replace hL := LL.below zhL hC
      refine WL.val (Qv rfl rfl) rfl rfl ?_
      refine WL.nil ?_
      refine hK57 ?_
      refine WC.region ?_
      refine WL.val (Qi rfl rfl) rfl rfl ?_
      refine WL.val (Yb (r := (56 - 8 * ((k + 1 : Nat) : Int))) rfl rfl rfl (by rw [QX (by omega)]; omega)) rfl rfl ?_
      refine WL.val (Qv rfl rfl) rfl rfl ?_
      refine WL.nil ?_
      rw [show (((D ++ 128 :: List.replicate j 0) ++ (Zy D.length).take k) ++ [Qb (Zy D.length) k]) = (D ++ 128 :: List.replicate j 0) ++ (Zy D.length).take (k + 1) from by rw [Y7 _ _ (by rw [Vm]; omega), List.append_assoc]] at h5
      exact hK52 (k + 1) x63 ⟨(by omega), hB, hL, h1, hT, hC, h5, k17⟩ (by omega) (by repeat first | exact trivial | exact And.intro rfl trivial | refine And.intro rfl ?_ | refine And.intro (congrArg (fun z : Int => some (Value.int .i64 z)) (by omega)) ?_ | refine And.intro (congrArg (fun z : Bool => some (Value.bool z)) (by first | exact (decide_eq_true (by omega)).symm | exact (decide_eq_false (by omega)).symm)) ?_)
    .
      replace c56 := of_decide_eq_false c56
      refine WC.exit ?_
      refine hK50 ?_
      refine WC.seq fun K66 hK66 => ?_
      have hfe : ((D ++ 128 :: List.replicate j 0) ++ (Zy D.length).take k) = (Q8 D) := by rw [Em, hje, List.take_of_length_le (by rw [Vm]; omega)]
      rw [hfe] at h5
      have hA : Zi 1 (w.heap.size :: L) W53 ov2 ((Q8 D).map e8) := h5.rd zhL
      have hFl : (Q8 D).length = QD D.length := Qbs D
      have hFb : Qe (Q8 D) := En hDb
      have hFm : ((Q8 D).map e8).length = (Q8 D).length := List.length_map _
      refine WC.region ?_
      refine WL.get (Vp (cs := XD (List.replicate 8 0)) rfl Gp Qar) rfl rfl ?_
      rintro _ W67 ⟨rfl, k68, b69, z70⟩
      have n71 : w.heap.size ≠ W53.heap.size := Nat.ne_of_lt k17.lt
      have l72 := hB.size
      replace hT := hT.more b69 (Nat.le_refl _)
      replace hA := hA.more b69 (Nat.le_refl _)
      replace k17 := k17.below b69
      replace hB := Qy hB b69
      replace hL := LL.more hL z70
      refine WL.nil ?_
      refine hK66 ?_
      refine WC.seq fun K73 hK73 => ?_
      refine WC.seq fun K74 hK74 => ?_
      refine WC.region ?_
      refine WL.val (Qv rfl rfl) rfl rfl ?_
      refine WL.nil ?_
      refine hK74 ?_
      refine WC.block ?_
      replace k68 : Xl W67 W53.heap.size (XD (QU.take 0 ++ (List.replicate 8 (0 : Int)).drop 0)) := k68
      refine WC.loop (fun (i : Nat) => [(1, .int .i64 64), (5, .pointer (some ⟨w.heap.size, 0, none⟩)), (6, .int .i64 80), (7, ov2), (10, .pointer (some ⟨W53.heap.size, 0, none⟩)), (11, .int .i64 (i : Int))]) (fun (i : Nat) W => i <= 8 /\ Below w.heap.size w W /\ LL (W53.heap.size :: w.heap.size :: L) W /\ Yi (W53.heap.size :: w.heap.size :: L) W /\ Zi 1 (W53.heap.size :: w.heap.size :: L) W ov2 ((Q8 D).map e8) /\ Xl W w.heap.size [.int .i64 28, .int .i64 34, .int .i64 39, .int .i64 14, .int .i64 18, .int .i64 41, .int .i64 1, .int .i64 8, .int .i64 7, .int .i64 19, .int .i64 61, .int .i64 6] /\ Xl W W53.heap.size (XD (QU.take i ++ (List.replicate 8 (0 : Int)).drop i))) (fun (i : Nat) => 8 - i) 0 (by repeat first | exact trivial | exact And.intro rfl trivial | refine And.intro rfl ?_ | refine And.intro (congrArg (fun z : Int => some (Value.int .i64 z)) (by omega)) ?_ | refine And.intro (congrArg (fun z : Bool => some (Value.bool z)) (by first | exact (decide_eq_true (by omega)).symm | exact (decide_eq_false (by omega)).symm)) ?_) ⟨(by decide), hB, hL, hT, hA, k17, k68⟩ ?_
      clear hT hA k17 k68 hB hL
      rintro K75 i W76 ⟨hi, hB, hL, hT, hA, k17, k68⟩ hK75
      refine WC.seq fun K77 hK77 => ?_
      refine WC.seq fun K78 hK78 => ?_
      refine WC.region ?_
      refine WL.val (Qi rfl rfl) rfl rfl ?_
      refine WL.val (VQ rfl rfl rfl) rfl rfl ?_
      refine WL.nil ?_
      refine hK78 ?_
      refine WC.cond rfl (fun c79 => ?_) (fun c79 => ?_)
      .
        replace c79 := of_decide_eq_true c79
        refine WC.skip ?_
        refine hK77 ?_
        refine WC.seq fun K80 hK80 => ?_
        refine WC.block ?_
        refine WC.region ?_
        refine WL.val (Qi rfl rfl) rfl rfl ?_
        refine WL.val (Qi rfl rfl) rfl rfl ?_
        refine WL.val (QA (o1 := i) rfl Tryz.underlying68 Qh rfl rfl (by omega) (by first | (simp; done) | omega)) rfl rfl ?_
        refine WL.val (QN rfl Qz rfl (hT.1.be i (by omega))) rfl rfl ?_
        refine WL.val (Qi rfl rfl) rfl rfl ?_
        refine WL.val (Yb (r := 0) rfl rfl rfl (by decide)) rfl rfl ?_
        refine WL.val (ZW (r := 0) rfl Tryz.underlying3 Tryz.underlying75 rfl (by decide)) rfl rfl ?_
        refine WL.val (Et rfl rfl rfl (by decide) (by decide) ((Int.ediv_one _).trans (Hj i (by omega)).symm)) rfl rfl ?_
        refine WL.val (QA (o1 := i) rfl Tryz.underlying68 Qh rfl rfl (by omega) (by first | (simp; done) | omega)) rfl rfl ?_
        refine WL.do (XJ (cs' := XD ((QU.take i ++ (List.replicate 8 (0 : Int)).drop i).set i (Qb QU i))) (vs := [.int .u64 (Qb QU i)]) rfl Qh rfl rfl rfl (QF rfl VH) k68 rfl (by rw [YH, show (QU.take i ++ (List.replicate 8 (0 : Int)).drop i).length = 8 from (Um Z8 FS hi)]; exact (by omega)) (QgR (by rw [show (QU.take i ++ (List.replicate 8 (0 : Int)).drop i).length = 8 from (Um Z8 FS hi)]; exact (by omega)))) rfl ?_
        rintro _ W81 ⟨k83, o82⟩
        replace k17 := k17.other o82 n71
        clear k68
        replace hT := hT.only o82 (.head _)
        replace hA := hA.only o82 (.head _)
        replace hB := o82.below hB l72
        replace hL := LL.only hL o82
        refine WL.nil ?_
        refine hK80 ?_
        refine WC.region ?_
        refine WL.val (Qi rfl rfl) rfl rfl ?_
        refine WL.val (XA (r := (i : Int) + 1) rfl rfl rfl (QX (by omega))) rfl rfl ?_
        refine WL.val (Qv rfl rfl) rfl rfl ?_
        refine WL.nil ?_
        rw [Qcm Z8 FS (by omega)] at k83
        exact hK75 (i + 1) ⟨(by omega), hB, hL, hT, hA, k17, k83⟩ (by omega) (by repeat first | exact trivial | exact And.intro rfl trivial | refine And.intro rfl ?_ | refine And.intro (congrArg (fun z : Int => some (Value.int .i64 z)) (by omega)) ?_ | refine And.intro (congrArg (fun z : Bool => some (Value.bool z)) (by first | exact (decide_eq_true (by omega)).symm | exact (decide_eq_false (by omega)).symm)) ?_)
      .
        replace c79 := of_decide_eq_false c79
        refine WC.exit ?_
        refine hK73 ?_
        refine WC.seq fun K84 hK84 => ?_
        have hi8 : i = 8 := by omega
        subst hi8
        replace k68 : Xl W76 W53.heap.size (XD (QO QU (Q8 D) 0)) := by have e : QU.take 8 ++ (List.replicate 8 (0 : Int)).drop 8 = QU := (by rw [List.take_of_length_le (by rw [Z8]; exact Nat.le_refl _)]; simp); rw [e] at k68; exact k68
        refine WC.region ?_
        refine WL.val (Qi rfl rfl) rfl rfl ?_
        refine WL.val (Eu (r := 8) rfl rfl rfl (by omega) (by decide)) rfl rfl ?_
        refine WL.val (Qv rfl rfl) rfl rfl ?_
        refine WL.nil ?_
        refine hK84 ?_
        refine WC.seq fun K85 hK85 => ?_
        refine WC.seq fun K86 hK86 => ?_
        refine WC.region ?_
        refine WL.val (Qv rfl rfl) rfl rfl ?_
        refine WL.nil ?_
        refine hK86 ?_
        refine WC.block ?_
        refine WC.loop (fun (q : Nat) => [(1, .int .i64 64), (5, .pointer (some ⟨w.heap.size, 0, none⟩)), (6, .int .i64 80), (7, ov2), (10, .pointer (some ⟨W53.heap.size, 0, none⟩)), (12, .int .i64 8), (13, .int .i64 ((q * 128 : Nat) : Int))]) (fun (q : Nat) W => q * 128 <= QD D.length /\ Below w.heap.size w W /\ LL (W53.heap.size :: w.heap.size :: L) W /\ Yi (W53.heap.size :: w.heap.size :: L) W /\ Zi 1 (W53.heap.size :: w.heap.size :: L) W ov2 ((Q8 D).map e8) /\ Xl W w.heap.size [.int .i64 28, .int .i64 34, .int .i64 39, .int .i64 14, .int .i64 18, .int .i64 41, .int .i64 1, .int .i64 8, .int .i64 7, .int .i64 19, .int .i64 61, .int .i64 6] /\ Xl W W53.heap.size (XD (QO QU (Q8 D) q))) (fun (q : Nat) => QD D.length - q * 128) 0 (by repeat first | exact trivial | exact And.intro rfl trivial | refine And.intro rfl ?_ | refine And.intro (congrArg (fun z : Int => some (Value.int .i64 z)) (by omega)) ?_ | refine And.intro (congrArg (fun z : Bool => some (Value.bool z)) (by first | exact (decide_eq_true (by omega)).symm | exact (decide_eq_false (by omega)).symm)) ?_) ⟨(by omega), hB, hL, hT, hA, k17, k68⟩ ?_
        clear hT hA k17 k68 hB hL
        rintro K87 q W88 ⟨hq, hB, hL, hT, hA, k17, k68⟩ hK87
        refine WC.seq fun K89 hK89 => ?_
        refine WC.seq fun K90 hK90 => ?_
        refine WC.region ?_
        refine WL.val (Qi rfl rfl) rfl rfl ?_
        refine WL.val (Qi rfl rfl) rfl rfl ?_
        refine WL.val (KZ rfl Z3 rfl hA) rfl rfl ?_
        refine WL.val (VQ rfl rfl rfl) rfl rfl ?_
        refine WL.nil ?_
        refine hK90 ?_
        refine WC.cond rfl (fun c91 => ?_) (fun c91 => ?_)
        .
          replace c91 := of_decide_eq_true c91
          refine WC.skip ?_
          refine hK89 ?_
          refine WC.seq fun K92 hK92 => ?_
          refine WC.block ?_
          refine WC.seq fun K93 hK93 => ?_
          have hpm := (J5 D.length).2.2
          have hc_ := c91
          rw [hFm, hFl] at hc_
          have hqq : q * 128 + 128 <= QD D.length := by omega
          obtain ⟨zs, hzs⟩ : ∃ z, z = ((Q8 D).drop (q * 128)).take 128 := ⟨_, rfl⟩
          have hzl : zs.length = 128 := by rw [hzs, List.length_take, List.length_drop, hFl]; omega
          have hzb : Qe zs := fun x hx => hFb x (by rw [hzs] at hx; exact List.mem_of_mem_drop (List.mem_of_mem_take hx))
          obtain ⟨st, hst⟩ : ∃ z, z = QO QU (Q8 D) q := ⟨_, rfl⟩
          rw [<- hst] at k68
          have hsl : st.length = 8 := by rw [hst]; exact JR _ _
          have hsi : ∀ x ∈ st, Xa x := by rw [hst]; exact QaC _ _
          refine WC.region ?_
          refine WL.get (Vp (cs := XD (List.replicate 80 0)) rfl Dc QdN) rfl rfl ?_
          rintro _ W94 ⟨rfl, k95, b96, z97⟩
          have n98 : w.heap.size ≠ W88.heap.size := Nat.ne_of_lt k17.lt
          have n99 : W53.heap.size ≠ W88.heap.size := Nat.ne_of_lt k68.lt
          have l100 := hB.size
          replace hT := hT.more b96 (Nat.le_refl _)
          replace hA := hA.more b96 (Nat.le_refl _)
          replace k17 := k17.below b96
          replace k68 := k68.below b96
          replace hB := Qy hB b96
          replace hL := LL.more hL z97
          refine WL.nil ?_
          refine hK93 ?_
          refine WC.seq fun K101 hK101 => ?_
          refine WC.seq fun K102 hK102 => ?_
          refine WC.region ?_
          refine WL.val (Qv rfl rfl) rfl rfl ?_
          refine WL.nil ?_
          refine hK102 ?_
          refine WC.block ?_
          rw [<- DI zs] at k95
          refine WC.loop (fun (i : Nat) => [(1, .int .i64 64), (5, .pointer (some ⟨w.heap.size, 0, none⟩)), (6, .int .i64 80), (7, ov2), (10, .pointer (some ⟨W53.heap.size, 0, none⟩)), (12, .int .i64 8), (13, .int .i64 ((q * 128 : Nat) : Int)), (14, .pointer (some ⟨W88.heap.size, 0, none⟩)), (15, .int .i64 (i : Int))]) (fun (i : Nat) W => i <= 128 /\ Below w.heap.size w W /\ LL (W88.heap.size :: W53.heap.size :: w.heap.size :: L) W /\ Yi (W88.heap.size :: W53.heap.size :: w.heap.size :: L) W /\ Zi 1 (W88.heap.size :: W53.heap.size :: w.heap.size :: L) W ov2 ((Q8 D).map e8) /\ Xl W w.heap.size [.int .i64 28, .int .i64 34, .int .i64 39, .int .i64 14, .int .i64 18, .int .i64 41, .int .i64 1, .int .i64 8, .int .i64 7, .int .i64 19, .int .i64 61, .int .i64 6] /\ Xl W W53.heap.size (XD st) /\ Xl W W88.heap.size (XD (Xh zs i))) (fun (i : Nat) => 128 - i) 0 (by repeat first | exact trivial | exact And.intro rfl trivial | refine And.intro rfl ?_ | refine And.intro (congrArg (fun z : Int => some (Value.int .i64 z)) (by omega)) ?_ | refine And.intro (congrArg (fun z : Bool => some (Value.bool z)) (by first | exact (decide_eq_true (by omega)).symm | exact (decide_eq_false (by omega)).symm)) ?_) ⟨Nat.zero_le _, hB, hL, hT, hA, k17, k68, k95⟩ ?_
          clear hT hA k17 k68 k95 hB hL
          rintro K103 i W104 ⟨hi, hB, hL, hT, hA, k17, k68, k95⟩ hK103
          refine WC.seq fun K105 hK105 => ?_
          refine WC.seq fun K106 hK106 => ?_
          refine WC.region ?_
          refine WL.val (Qi rfl rfl) rfl rfl ?_
          refine WL.val (Qi rfl rfl) rfl rfl ?_
          refine WL.val (G5 (r := 128) rfl rfl rfl (by decide)) rfl rfl ?_
          refine WL.val (VQ rfl rfl rfl) rfl rfl ?_
          refine WL.nil ?_
          refine hK106 ?_
          refine WC.cond rfl (fun c107 => ?_) (fun c107 => ?_)
          .
            replace c107 := of_decide_eq_true c107
            refine WC.skip ?_
            refine hK105 ?_
            refine WC.seq fun K108 hK108 => ?_
            refine WC.block ?_
            have ez : (Q8 D)[q * 128 + i]? = some (Qb zs i) := by have e1 : Qb zs i = Qb (Q8 D) (q * 128 + i) := (by rw [hzs]; unfold Qb; rw [List.getElem?_take, if_pos (by omega), List.getElem?_drop]); rw [e1]; exact Qgk (by omega)
            have hzi := ZX (p := fun x => 0 <= x /\ x <= 255) (by decide) hzb i
            have hpl := Qdl hzb hzl i (by omega)
            refine WC.drawM 17 [(some 98, .is (.int .i64 (i : Int))), (some 99, .is (.int .i64 8)), (some 100, .is (.int .i64 ((i : Int) / 8))), (some 101, .is (.int .i64 (i : Int))), (some 102, .is (.int .i64 8)), (some 103, .is (.int .i64 ((i : Int) / 8))), (some 104, .is (.pointer (some ⟨W88.heap.size, (i / 8), none⟩))), (some 105, .is (.int .u64 (Qb (Xh zs i) (i / 8)))), (some 106, .is (.int .u64 (Qb (Xh zs i) (i / 8) * 256))), (some 107, .is (ov2)), (some 108, .is (.int .i64 ((q * 128 : Nat) : Int))), (some 109, .is (.int .i64 (i : Int))), (some 110, .is (.int .i64 (((q * 128 : Nat) : Int) + (i : Int)))), (some 111, .by fun u W => PtR (W88.heap.size :: W53.heap.size :: w.heap.size :: L) W u [.int .u8 (Qb zs i)]), (some 112, .is (.int .u8 (Qb zs i))), (some 113, .is (.int .u64 (Qb zs i))), (some 114, .is (.int .u64 (Qb (Xh zs i) (i / 8) * 256 + (Qb zs i))))] [[], [], [0, 1], [], [], [3, 4], [5], [6], [7], [], [], [], [10, 11], [9, 12], [13], [14], [8, 15]] (by kernel_rfl) (by kernel_rfl) (by kernel_rfl) (by kernel_rfl) (by kernel_rfl) (by kernel_rfl) (by kernel_rfl) ⟨fun _ _ _ hb h => h.below hb, trivial⟩ ?_ ?_
            .
              refine Qd.cons (fun Wd hd => ?_) ?_
              .
                exact DV.dr (Qi rfl rfl) ⟨Below.refl _ _, rfl⟩
              refine Qd.cons (fun Wd hd => ?_) ?_
              .
                exact DV.dr (Qi rfl rfl) ⟨Below.refl _ _, rfl⟩
              refine Qd.cons (fun Wd hd => ?_) ?_
              .
                exact DV.dr (Eu (r := (i : Int) / 8) rfl rfl rfl (by decide) (by rw [Int.tdiv_eq_ediv_of_nonneg (by omega)]; exact QX (by omega))) ⟨Below.refl _ _, rfl⟩
              refine Qd.cons (fun Wd hd => ?_) ?_
              .
                exact DV.dr (Qi rfl rfl) ⟨Below.refl _ _, rfl⟩
              refine Qd.cons (fun Wd hd => ?_) ?_
              .
                exact DV.dr (Qi rfl rfl) ⟨Below.refl _ _, rfl⟩
              refine Qd.cons (fun Wd hd => ?_) ?_
              .
                exact DV.dr (Eu (r := (i : Int) / 8) rfl rfl rfl (by decide) (by rw [Int.tdiv_eq_ediv_of_nonneg (by omega)]; exact QX (by omega))) ⟨Below.refl _ _, rfl⟩
              refine Qd.cons (fun Wd hd => ?_) ?_
              .
                exact DV.dr (QA (o1 := (i / 8)) rfl Tryz.underlying125 Qh rfl rfl (by omega) (by first | (simp; done) | omega)) ⟨Below.refl _ _, rfl⟩
              refine Qd.cons (fun Wd hd => ?_) ?_
              .
                have k95 := k95.below hd
                exact DV.dr (QN rfl Qz rfl (k95.cell (k := (i / 8)) (JH (by rw [show (Xh zs i).length = 80 from (XS _ _)]; exact (by omega))))) ⟨Below.refl _ _, rfl⟩
              refine Qd.cons (fun Wd hd => ?_) ?_
              .
                exact DV.dr (QjG (r := Qb (Xh zs i) (i / 8) * 256) rfl rfl rfl (by decide) (by decide) (by rw [X7, show (2 : Int) ^ (8 : Int).toNat = 256 from by decide]; omega)) ⟨Below.refl _ _, rfl⟩
              refine Qd.cons (fun Wd hd => ?_) ?_
              .
                exact DV.dr (Qi rfl rfl) ⟨Below.refl _ _, rfl⟩
              refine Qd.cons (fun Wd hd => ?_) ?_
              .
                exact DV.dr (Qi rfl rfl) ⟨Below.refl _ _, rfl⟩
              refine Qd.cons (fun Wd hd => ?_) ?_
              .
                exact DV.dr (Qi rfl rfl) ⟨Below.refl _ _, rfl⟩
              refine Qd.cons (fun Wd hd => ?_) ?_
              .
                exact DV.dr (XA (r := ((q * 128 : Nat) : Int) + (i : Int)) rfl rfl rfl (QX (by omega))) ⟨Below.refl _ _, rfl⟩
              refine Qd.cons (fun Wd hd => ?_) ?_
              .
                have hA := hA.below hd
                exact (QhR (q * 128 + i) rfl Z3 rfl rfl hA (by omega) (Qia ez)).mono (fun v W' h => ⟨by rw [<- h.1]; exact Below.refl _ _, by rw [<- h.1]; exact h.2⟩)
              refine Qd.cons (fun Wd hd => ?_) ?_
              .
                intro u27_13 p27_13
                exact DV.dr (QfS rfl Qec rfl p27_13) ⟨Below.refl _ _, rfl⟩
              refine Qd.cons (fun Wd hd => ?_) ?_
              .
                exact DV.dr (ZW (r := (Qb zs i)) rfl Tryz.underlying5 Tryz.underlying47 rfl (Gg (by omega))) ⟨Below.refl _ _, rfl⟩
              refine Qd.cons (fun Wd hd => ?_) ?_
              .
                exact DV.dr (QcG (r := Qb (Xh zs i) (i / 8) * 256 + (Qb zs i)) rfl rfl rfl (Qch _ _ (by omega) (by omega))) ⟨Below.refl _ _, rfl⟩
              exact trivial
            .
              intro W109 b110
              intro u27_13 p27_13
              replace hT := hT.below b110
              replace hA := hA.below b110
              replace k17 := k17.below b110
              replace k68 := k68.below b110
              replace k95 := k95.below b110
              replace hB := Qy hB b110
              replace hL := LL.below hL b110
              refine WL.val (QA (o1 := (i / 8)) rfl Tryz.underlying125 Qh rfl rfl (by omega) (by first | (simp; done) | omega)) rfl rfl ?_
              refine WL.do (XJ (cs' := XD ((Xh zs i).set (i / 8) (Qb (Xh zs i) (i / 8) * 256 + (Qb zs i)))) (vs := [.int .u64 (Qb (Xh zs i) (i / 8) * 256 + (Qb zs i))]) rfl Qh rfl rfl rfl (QF rfl VH) k95 rfl (by rw [YH, show (Xh zs i).length = 80 from (XS _ _)]; exact (by omega)) (QgR (by rw [show (Xh zs i).length = 80 from (XS _ _)]; exact (by omega)))) rfl ?_
              rintro _ W111 ⟨k113, o112⟩
              replace k17 := k17.other o112 n98
              replace k68 := k68.other o112 n99
              clear k95
              replace hT := hT.only o112 (.head _)
              replace hA := hA.only o112 (.head _)
              replace p27_13 := p27_13.only o112 (.head _)
              replace hB := o112.below hB l100
              replace hL := LL.only hL o112
              refine WL.nil ?_
              refine hK108 ?_
              refine WC.region ?_
              refine WL.val (Qi rfl rfl) rfl rfl ?_
              refine WL.val (XA (r := (i : Int) + 1) rfl rfl rfl (QX (by omega))) rfl rfl ?_
              refine WL.val (Qv rfl rfl) rfl rfl ?_
              refine WL.nil ?_
              rw [DJ zs hzl i (by omega)] at k113
              exact hK103 (i + 1) ⟨(by omega), hB, hL, hT, hA, k17, k68, k113⟩ (by omega) (by repeat first | exact trivial | exact And.intro rfl trivial | refine And.intro rfl ?_ | refine And.intro (congrArg (fun z : Int => some (Value.int .i64 z)) (by omega)) ?_ | refine And.intro (congrArg (fun z : Bool => some (Value.bool z)) (by first | exact (decide_eq_true (by omega)).symm | exact (decide_eq_false (by omega)).symm)) ?_)
          .
            replace c107 := of_decide_eq_false c107
            refine WC.exit ?_
            refine hK101 ?_
            refine WC.seq fun K114 hK114 => ?_
            refine WC.seq fun K115 hK115 => ?_
            refine WC.region ?_
            refine WL.val (Qv rfl rfl) rfl rfl ?_
            refine WL.nil ?_
            refine hK115 ?_
            refine WC.block ?_
            have hi6 : i = 128 := by omega
            subst hi6
            rw [Qbe zs hzl] at k95
            refine WC.loop (fun (k : Nat) => [(1, .int .i64 64), (5, .pointer (some ⟨w.heap.size, 0, none⟩)), (6, .int .i64 80), (7, ov2), (10, .pointer (some ⟨W53.heap.size, 0, none⟩)), (12, .int .i64 8), (13, .int .i64 ((q * 128 : Nat) : Int)), (14, .pointer (some ⟨W88.heap.size, 0, none⟩)), (16, .int .i64 ((k + 16 : Nat) : Int))]) (fun (k : Nat) W => k <= 64 /\ Below w.heap.size w W /\ LL (W88.heap.size :: W53.heap.size :: w.heap.size :: L) W /\ Yi (W88.heap.size :: W53.heap.size :: w.heap.size :: L) W /\ Zi 1 (W88.heap.size :: W53.heap.size :: w.heap.size :: L) W ov2 ((Q8 D).map e8) /\ Xl W w.heap.size [.int .i64 28, .int .i64 34, .int .i64 39, .int .i64 14, .int .i64 18, .int .i64 41, .int .i64 1, .int .i64 8, .int .i64 7, .int .i64 19, .int .i64 61, .int .i64 6] /\ Xl W W53.heap.size (XD st) /\ Xl W W88.heap.size (XD (Qc zs k))) (fun (k : Nat) => 64 - k) 0 (by repeat first | exact trivial | exact And.intro rfl trivial | refine And.intro rfl ?_ | refine And.intro (congrArg (fun z : Int => some (Value.int .i64 z)) (by omega)) ?_ | refine And.intro (congrArg (fun z : Bool => some (Value.bool z)) (by first | exact (decide_eq_true (by omega)).symm | exact (decide_eq_false (by omega)).symm)) ?_) ⟨Nat.zero_le _, hB, hL, hT, hA, k17, k68, k95⟩ ?_
            clear hT hA k17 k68 k95 hB hL
            rintro K116 k W117 ⟨hk, hB, hL, hT, hA, k17, k68, k95⟩ hK116
            refine WC.seq fun K118 hK118 => ?_
            refine WC.seq fun K119 hK119 => ?_
            refine WC.region ?_
            refine WL.val (Qi rfl rfl) rfl rfl ?_
            refine WL.val (Qi rfl rfl) rfl rfl ?_
            refine WL.val (VQ rfl rfl rfl) rfl rfl ?_
            refine WL.nil ?_
            refine hK119 ?_
            refine WC.cond rfl (fun c120 => ?_) (fun c120 => ?_)
            .
              replace c120 := of_decide_eq_true c120
              refine WC.skip ?_
              refine hK118 ?_
              refine WC.seq fun K121 hK121 => ?_
              refine WC.block ?_
              have hsi2 := ZX (p := Xa) XG (VA hzb hzl k)
              refine WC.drawM 30 [(some 121, .is (.int .i64 ((k + 16 : Nat) : Int))), (some 122, .is (.int .i64 ((k + 16 : Nat) : Int))), (some 123, .is (.int .i64 (((k + 16 : Nat) : Int) - 16))), (some 124, .is (.pointer (some ⟨W88.heap.size, (k + 16 - 16), none⟩))), (some 125, .is (.int .u64 (Qb (Qc zs k) (k + 16 - 16)))), (some 126, .is (.int .i64 ((k + 16 : Nat) : Int))), (some 127, .is (.int .i64 (((k + 16 : Nat) : Int) - 15))), (some 128, .is (.pointer (some ⟨W88.heap.size, (k + 16 - 15), none⟩))), (some 129, .is (.int .u64 (Qb (Qc zs k) (k + 16 - 15)))), (some 130, .is (.pointer (some ⟨w.heap.size, 6, none⟩))), (some 131, .is (.agg #[.int .i64 1, .int .i64 8, .int .i64 7])), (some 132, .is (.int .i64 64)), (some 133, .is (.int .u64 (YC (Qb (Qc zs k) (k + 16 - 15))))), (some 134, .is (.int .u64 ((Qb (Qc zs k) (k + 16 - 16) + YC (Qb (Qc zs k) (k + 16 - 15))) % 18446744073709551616))), (some 135, .is (.int .i64 ((k + 16 : Nat) : Int))), (some 136, .is (.int .i64 (((k + 16 : Nat) : Int) - 7))), (some 137, .is (.pointer (some ⟨W88.heap.size, (k + 16 - 7), none⟩))), (some 138, .is (.int .u64 (Qb (Qc zs k) (k + 16 - 7)))), (some 139, .is (.int .u64 (((Qb (Qc zs k) (k + 16 - 16) + YC (Qb (Qc zs k) (k + 16 - 15))) % 18446744073709551616 + Qb (Qc zs k) (k + 16 - 7)) % 18446744073709551616))), (some 140, .is (.int .i64 ((k + 16 : Nat) : Int))), (some 141, .is (.int .i64 (((k + 16 : Nat) : Int) - 2))), (some 142, .is (.pointer (some ⟨W88.heap.size, (k + 16 - 2), none⟩))), (some 143, .is (.int .u64 (Qb (Qc zs k) (k + 16 - 2)))), (some 144, .is (.pointer (some ⟨w.heap.size, 9, none⟩))), (some 145, .is (.agg #[.int .i64 19, .int .i64 61, .int .i64 6])), (some 146, .is (.int .i64 64)), (some 147, .is (.int .u64 (VM (Qb (Qc zs k) (k + 16 - 2))))), (some 148, .is (.int .u64 ((((Qb (Qc zs k) (k + 16 - 16) + YC (Qb (Qc zs k) (k + 16 - 15))) % 18446744073709551616 + Qb (Qc zs k) (k + 16 - 7)) % 18446744073709551616 + VM (Qb (Qc zs k) (k + 16 - 2))) % 18446744073709551616))), (some 149, .is (.int .i64 64)), (some 150, .is (.int .u64 (ZK (Qc zs k) (16 + k))))] [[], [], [1], [2], [3], [], [5], [6], [7], [], [9], [], [8, 10, 11], [4, 12], [], [14], [15], [16], [13, 17], [], [19], [20], [21], [], [23], [], [22, 24, 25, 12], [18, 26], [], [27, 28, 26]] (by kernel_rfl) (by kernel_rfl) (by kernel_rfl) (by kernel_rfl) (by kernel_rfl) (by kernel_rfl) (by kernel_rfl) (by exact trivial) ?_ ?_
              .
                refine Qd.cons (fun Wd hd => ?_) ?_
                .
                  exact DV.dr (Qi rfl rfl) ⟨Below.refl _ _, rfl⟩
                refine Qd.cons (fun Wd hd => ?_) ?_
                .
                  exact DV.dr (Qi rfl rfl) ⟨Below.refl _ _, rfl⟩
                refine Qd.cons (fun Wd hd => ?_) ?_
                .
                  exact DV.dr (Yb (r := ((k + 16 : Nat) : Int) - 16) rfl rfl rfl (QX (by omega))) ⟨Below.refl _ _, rfl⟩
                refine Qd.cons (fun Wd hd => ?_) ?_
                .
                  exact DV.dr (QA (o1 := (k + 16 - 16)) rfl Tryz.underlying125 Qh rfl rfl (by omega) (by first | (simp; done) | omega)) ⟨Below.refl _ _, rfl⟩
                refine Qd.cons (fun Wd hd => ?_) ?_
                .
                  have k95 := k95.below hd
                  exact DV.dr (QN rfl Qz rfl (k95.cell (k := (k + 16 - 16)) (JH (by rw [show (Qc zs k).length = 80 from (Xe _ _)]; exact (by omega))))) ⟨Below.refl _ _, rfl⟩
                refine Qd.cons (fun Wd hd => ?_) ?_
                .
                  exact DV.dr (Qi rfl rfl) ⟨Below.refl _ _, rfl⟩
                refine Qd.cons (fun Wd hd => ?_) ?_
                .
                  exact DV.dr (Yb (r := ((k + 16 : Nat) : Int) - 15) rfl rfl rfl (QX (by omega))) ⟨Below.refl _ _, rfl⟩
                refine Qd.cons (fun Wd hd => ?_) ?_
                .
                  exact DV.dr (QA (o1 := (k + 16 - 15)) rfl Tryz.underlying125 Qh rfl rfl (by omega) (by first | (simp; done) | omega)) ⟨Below.refl _ _, rfl⟩
                refine Qd.cons (fun Wd hd => ?_) ?_
                .
                  have k95 := k95.below hd
                  exact DV.dr (QN rfl Qz rfl (k95.cell (k := (k + 16 - 15)) (JH (by rw [show (Qc zs k).length = 80 from (Xe _ _)]; exact (by omega))))) ⟨Below.refl _ _, rfl⟩
                refine Qd.cons (fun Wd hd => ?_) ?_
                .
                  exact DV.dr (QA (o1 := 6) rfl Tryz.underlying123 ZU rfl rfl (by decide) rfl) ⟨Below.refl _ _, rfl⟩
                refine Qd.cons (fun Wd hd => ?_) ?_
                .
                  have k17 := k17.below hd
                  exact DV.dr (YI (cs := [.int .i64 1, .int .i64 8, .int .i64 7]) rfl Ye rfl (k17.part 6 3) rfl) ⟨Below.refl _ _, rfl⟩
                refine Qd.cons (fun Wd hd => ?_) ?_
                .
                  exact DV.dr (Qi rfl rfl) ⟨Below.refl _ _, rfl⟩
                refine Qd.cons (fun Wd hd => ?_) ?_
                .
                  exact DR.mono (Ur rfl Tryz.func106 rfl rfl rfl ((show CV _ _ [_, _, _, _] _ (fun v _ => v = .int .u64 (YC (Qb (Qc zs k) (k + 16 - 15)))) from K0 (V2 (Qb (Qc zs k) (k + 16 - 15)) 1 8 7 Wd (hsi2 _) (by decide) (by decide) (by decide))))) (fun v W' ⟨h, hb⟩ => ⟨hb, (by rw [h]; exact rfl)⟩)
                refine Qd.cons (fun Wd hd => ?_) ?_
                .
                  exact DV.dr (XA rfl rfl rfl (X7 _)) ⟨Below.refl _ _, rfl⟩
                refine Qd.cons (fun Wd hd => ?_) ?_
                .
                  exact DV.dr (Qi rfl rfl) ⟨Below.refl _ _, rfl⟩
                refine Qd.cons (fun Wd hd => ?_) ?_
                .
                  exact DV.dr (Yb (r := ((k + 16 : Nat) : Int) - 7) rfl rfl rfl (QX (by omega))) ⟨Below.refl _ _, rfl⟩
                refine Qd.cons (fun Wd hd => ?_) ?_
                .
                  exact DV.dr (QA (o1 := (k + 16 - 7)) rfl Tryz.underlying125 Qh rfl rfl (by omega) (by first | (simp; done) | omega)) ⟨Below.refl _ _, rfl⟩
                refine Qd.cons (fun Wd hd => ?_) ?_
                .
                  have k95 := k95.below hd
                  exact DV.dr (QN rfl Qz rfl (k95.cell (k := (k + 16 - 7)) (JH (by rw [show (Qc zs k).length = 80 from (Xe _ _)]; exact (by omega))))) ⟨Below.refl _ _, rfl⟩
                refine Qd.cons (fun Wd hd => ?_) ?_
                .
                  exact DV.dr (XA rfl rfl rfl (X7 _)) ⟨Below.refl _ _, rfl⟩
                refine Qd.cons (fun Wd hd => ?_) ?_
                .
                  exact DV.dr (Qi rfl rfl) ⟨Below.refl _ _, rfl⟩
                refine Qd.cons (fun Wd hd => ?_) ?_
                .
                  exact DV.dr (Yb (r := ((k + 16 : Nat) : Int) - 2) rfl rfl rfl (QX (by omega))) ⟨Below.refl _ _, rfl⟩
                refine Qd.cons (fun Wd hd => ?_) ?_
                .
                  exact DV.dr (QA (o1 := (k + 16 - 2)) rfl Tryz.underlying125 Qh rfl rfl (by omega) (by first | (simp; done) | omega)) ⟨Below.refl _ _, rfl⟩
                refine Qd.cons (fun Wd hd => ?_) ?_
                .
                  have k95 := k95.below hd
                  exact DV.dr (QN rfl Qz rfl (k95.cell (k := (k + 16 - 2)) (JH (by rw [show (Qc zs k).length = 80 from (Xe _ _)]; exact (by omega))))) ⟨Below.refl _ _, rfl⟩
                refine Qd.cons (fun Wd hd => ?_) ?_
                .
                  exact DV.dr (QA (o1 := 9) rfl Tryz.underlying123 ZU rfl rfl (by decide) rfl) ⟨Below.refl _ _, rfl⟩
                refine Qd.cons (fun Wd hd => ?_) ?_
                .
                  have k17 := k17.below hd
                  exact DV.dr (YI (cs := [.int .i64 19, .int .i64 61, .int .i64 6]) rfl Ye rfl (k17.part 9 3) rfl) ⟨Below.refl _ _, rfl⟩
                refine Qd.cons (fun Wd hd => ?_) ?_
                .
                  exact DV.dr (Qi rfl rfl) ⟨Below.refl _ _, rfl⟩
                refine Qd.cons (fun Wd hd => ?_) ?_
                .
                  exact DR.mono (Ur rfl Tryz.func106 rfl rfl rfl ((show CV _ _ [_, _, _, _] _ (fun v _ => v = .int .u64 (VM (Qb (Qc zs k) (k + 16 - 2)))) from K0 (V2 (Qb (Qc zs k) (k + 16 - 2)) 19 61 6 Wd (hsi2 _) (by decide) (by decide) (by decide))))) (fun v W' ⟨h, hb⟩ => ⟨hb, (by rw [h]; exact rfl)⟩)
                refine Qd.cons (fun Wd hd => ?_) ?_
                .
                  exact DV.dr (XA rfl rfl rfl (X7 _)) ⟨Below.refl _ _, rfl⟩
                refine Qd.cons (fun Wd hd => ?_) ?_
                .
                  exact DV.dr (Qi rfl rfl) ⟨Below.refl _ _, rfl⟩
                refine Qd.cons (fun Wd hd => ?_) ?_
                .
                  exact DR.mono (Ur rfl Tryz.func105 rfl rfl rfl ((show CV _ _ [_, _] _ (fun v _ => v = .int .u64 (ZK (Qc zs k) (16 + k))) from CV.mono (U8 (XQ ((((Qb (Qc zs k) (k + 16 - 16) + YC (Qb (Qc zs k) (k + 16 - 15))) % 18446744073709551616 + Qb (Qc zs k) (k + 16 - 7)) % 18446744073709551616 + VM (Qb (Qc zs k) (k + 16 - 2))) % 18446744073709551616) Wd (J7 _))) fun v _ _ h => h.trans (congrArg (Value.int .u64) (show (((Qb (Qc zs k) (k + 16 - 16) + YC (Qb (Qc zs k) (k + 16 - 15))) % 18446744073709551616 + Qb (Qc zs k) (k + 16 - 7)) % 18446744073709551616 + VM (Qb (Qc zs k) (k + 16 - 2))) % 18446744073709551616 = ZK (Qc zs k) (16 + k) from by rw [show 16 + k = k + 16 from Nat.add_comm _ _]; exact Qdx (Qc zs k) (k + 16) _ _ _ _ rfl rfl rfl rfl))))) (fun v W' ⟨h, hb⟩ => ⟨hb, (by rw [h]; exact rfl)⟩)
                exact trivial
              .
                intro W122 b123
                replace hT := hT.below b123
                replace hA := hA.below b123
                replace k17 := k17.below b123
                replace k68 := k68.below b123
                replace k95 := k95.below b123
                replace hB := Qy hB b123
                replace hL := LL.below hL b123
                refine WL.val (QA (o1 := (k + 16)) rfl Tryz.underlying125 Qh rfl rfl (by omega) (by first | (simp; done) | omega)) rfl rfl ?_
                refine WL.do (XJ (cs' := XD ((Qc zs k).set (k + 16) (ZK (Qc zs k) (16 + k)))) (vs := [.int .u64 (ZK (Qc zs k) (16 + k))]) rfl Qh rfl rfl rfl (QF rfl VH) k95 rfl (by rw [YH, show (Qc zs k).length = 80 from (Xe _ _)]; exact (by omega)) (QgR (by rw [show (Qc zs k).length = 80 from (Xe _ _)]; exact (by omega)))) rfl ?_
                rintro _ W124 ⟨k126, o125⟩
                replace k17 := k17.other o125 n98
                replace k68 := k68.other o125 n99
                clear k95
                replace hT := hT.only o125 (.head _)
                replace hA := hA.only o125 (.head _)
                replace hB := o125.below hB l100
                replace hL := LL.only hL o125
                refine WL.nil ?_
                refine hK121 ?_
                refine WC.region ?_
                refine WL.val (Qi rfl rfl) rfl rfl ?_
                refine WL.val (XA (r := ((k + 1 + 16 : Nat) : Int)) rfl rfl rfl (by rw [QX (by omega)]; omega)) rfl rfl ?_
                refine WL.val (Qv rfl rfl) rfl rfl ?_
                refine WL.nil ?_
                replace k126 : Xl W124 W88.heap.size (XD (Qc zs (k + 1))) := by rw [show k + 16 = 16 + k from Nat.add_comm _ _] at k126; exact k126
                exact hK116 (k + 1) ⟨(by omega), hB, hL, hT, hA, k17, k68, k126⟩ (by omega) (by repeat first | exact trivial | exact And.intro rfl trivial | refine And.intro rfl ?_ | refine And.intro (congrArg (fun z : Int => some (Value.int .i64 z)) (by omega)) ?_ | refine And.intro (congrArg (fun z : Bool => some (Value.bool z)) (by first | exact (decide_eq_true (by omega)).symm | exact (decide_eq_false (by omega)).symm)) ?_)
            .
              replace c120 := of_decide_eq_false c120
              refine WC.exit ?_
              refine hK114 ?_
              refine WC.seq fun K127 hK127 => ?_
              refine WC.region ?_
              refine WL.val (YI rfl De rfl k68.range (by rw [YH]; exact hsl)) rfl rfl ?_
              refine WL.get (Vp (cs := XD (List.replicate 8 0)) rfl Gp Qar) rfl rfl ?_
              rintro _ W128 ⟨rfl, k129, b130, z131⟩
              have n132 : w.heap.size ≠ W117.heap.size := Nat.ne_of_lt k17.lt
              have n133 : W53.heap.size ≠ W117.heap.size := Nat.ne_of_lt k68.lt
              have n134 : W88.heap.size ≠ W117.heap.size := Nat.ne_of_lt k95.lt
              have l135 := hB.size
              replace hT := hT.more b130 (Nat.le_refl _)
              replace hA := hA.more b130 (Nat.le_refl _)
              replace k17 := k17.below b130
              replace k68 := k68.below b130
              replace k95 := k95.below b130
              replace hB := Qy hB b130
              replace hL := LL.more hL z131
              refine WL.do (QdK (vs := (XD st)) rfl Jc rfl rfl rfl (Qlt st) k129 (by rw [YH]; exact hsl) (by rw [YH, List.length_replicate])) rfl ?_
              rintro _ W136 ⟨k138, o137⟩
              replace k17 := k17.other o137 n132
              replace k68 := k68.other o137 n133
              replace k95 := k95.other o137 n134
              clear k129
              replace hT := hT.only o137 (.head _)
              replace hA := hA.only o137 (.head _)
              replace hB := o137.below hB l135
              replace hL := LL.only hL o137
              refine WL.nil ?_
              refine hK127 ?_
              refine WC.seq fun K139 hK139 => ?_
              refine WC.seq fun K140 hK140 => ?_
              refine WC.region ?_
              refine WL.val (Qv rfl rfl) rfl rfl ?_
              refine WL.nil ?_
              refine hK140 ?_
              refine WC.block ?_
              have hks : k = 64 := by omega
              subst hks
              replace k138 : Xl W136 W117.heap.size [.int .u64 (Ql (Qc zs 64) (Qu st) 0).a, .int .u64 (Ql (Qc zs 64) (Qu st) 0).b, .int .u64 (Ql (Qc zs 64) (Qu st) 0).c, .int .u64 (Ql (Qc zs 64) (Qu st) 0).d, .int .u64 (Ql (Qc zs 64) (Qu st) 0).e, .int .u64 (Ql (Qc zs 64) (Qu st) 0).f, .int .u64 (Ql (Qc zs 64) (Qu st) 0).g, .int .u64 (Ql (Qc zs 64) (Qu st) 0).h] := by rw [QkO hsl] at k138; exact k138
              have hok := YT (m := Qc zs 64) (Qbx hsi)
              refine WC.loop (fun (i : Nat) => [(1, .int .i64 64), (5, .pointer (some ⟨w.heap.size, 0, none⟩)), (6, .int .i64 80), (7, ov2), (10, .pointer (some ⟨W53.heap.size, 0, none⟩)), (12, .int .i64 8), (13, .int .i64 ((q * 128 : Nat) : Int)), (14, .pointer (some ⟨W88.heap.size, 0, none⟩)), (17, .pointer (some ⟨W117.heap.size, 0, none⟩)), (18, .int .i64 (i : Int))]) (fun (i : Nat) W => i <= 80 /\ Below w.heap.size w W /\ LL (W117.heap.size :: W88.heap.size :: W53.heap.size :: w.heap.size :: L) W /\ Yi (W117.heap.size :: W88.heap.size :: W53.heap.size :: w.heap.size :: L) W /\ Zi 1 (W117.heap.size :: W88.heap.size :: W53.heap.size :: w.heap.size :: L) W ov2 ((Q8 D).map e8) /\ Xl W w.heap.size [.int .i64 28, .int .i64 34, .int .i64 39, .int .i64 14, .int .i64 18, .int .i64 41, .int .i64 1, .int .i64 8, .int .i64 7, .int .i64 19, .int .i64 61, .int .i64 6] /\ Xl W W53.heap.size (XD st) /\ Xl W W88.heap.size (XD (Qc zs 64)) /\ Xl W W117.heap.size [.int .u64 ((Ql (Qc zs 64) (Qu st) i).a), .int .u64 ((Ql (Qc zs 64) (Qu st) i).b), .int .u64 ((Ql (Qc zs 64) (Qu st) i).c), .int .u64 ((Ql (Qc zs 64) (Qu st) i).d), .int .u64 ((Ql (Qc zs 64) (Qu st) i).e), .int .u64 ((Ql (Qc zs 64) (Qu st) i).f), .int .u64 ((Ql (Qc zs 64) (Qu st) i).g), .int .u64 ((Ql (Qc zs 64) (Qu st) i).h)]) (fun (i : Nat) => 80 - i) 0 (by repeat first | exact trivial | exact And.intro rfl trivial | refine And.intro rfl ?_ | refine And.intro (congrArg (fun z : Int => some (Value.int .i64 z)) (by omega)) ?_ | refine And.intro (congrArg (fun z : Bool => some (Value.bool z)) (by first | exact (decide_eq_true (by omega)).symm | exact (decide_eq_false (by omega)).symm)) ?_) ⟨Nat.zero_le _, hB, hL, hT, hA, k17, k68, k95, k138⟩ ?_
              clear hT hA k17 k68 k95 k138 hB hL
              rintro K141 i W142 ⟨hi, hB, hL, hT, hA, k17, k68, k95, k138⟩ hK141
              obtain ⟨ev, hev⟩ : ∃ e, e = (Ql (Qc zs 64) (Qu st) i) := ⟨_, rfl⟩
              rw [<- hev] at k138
              have hokv := hok i
              rw [<- hev] at hokv
              refine WC.seq fun K143 hK143 => ?_
              refine WC.seq fun K144 hK144 => ?_
              refine WC.region ?_
              refine WL.val (Qi rfl rfl) rfl rfl ?_
              refine WL.val (Qi rfl rfl) rfl rfl ?_
              refine WL.val (VQ rfl rfl rfl) rfl rfl ?_
              refine WL.nil ?_
              refine hK144 ?_
              refine WC.cond rfl (fun c145 => ?_) (fun c145 => ?_)
              .
                replace c145 := of_decide_eq_true c145
                refine WC.skip ?_
                refine hK143 ?_
                refine WC.seq fun K146 hK146 => ?_
                refine WC.block ?_
                refine WC.seq fun K147 hK147 => ?_
                refine WC.drawM 35 ((some 158, .is (.pointer (some ⟨W117.heap.size, 7, none⟩))) :: (some 159, .is (.int .u64 ev.h)) :: (some 160, .is (.pointer (some ⟨W117.heap.size, 4, none⟩))) :: (some 161, .is (.int .u64 ev.e)) :: (some 162, .is (.pointer (some ⟨w.heap.size, 3, none⟩))) :: (some 163, .is (.agg #[.int .i64 14, .int .i64 18, .int .i64 41])) :: (some 164, .is (.int .i64 64)) :: (some 165, .is (.int .u64 (YL ev.e))) :: (some 166, .is (.int .u64 ((ev.h + YL ev.e) % 18446744073709551616))) :: (some 167, .is (.pointer (some ⟨W117.heap.size, 4, none⟩))) :: (some 168, .is (.int .u64 ev.e)) :: (some 169, .is (.pointer (some ⟨W117.heap.size, 5, none⟩))) :: (some 170, .is (.int .u64 ev.f)) :: (some 171, .is (.int .u64 (bits BinOp.and .u64 ev.e ev.f))) :: (some 172, .is (.pointer (some ⟨W117.heap.size, 4, none⟩))) :: (some 173, .is (.int .u64 ev.e)) :: (some 174, .is (.int .u64 (Z5 ev.e))) :: (some 175, .is (.pointer (some ⟨W117.heap.size, 6, none⟩))) :: (some 176, .is (.int .u64 ev.g)) :: (some 177, .is (.int .u64 (bits BinOp.and .u64 (Z5 ev.e) ev.g))) :: (some 178, .is (.int .u64 (bits BinOp.xor .u64 (bits BinOp.and .u64 ev.e ev.f) (bits BinOp.and .u64 (Z5 ev.e) ev.g)))) :: (some 179, .is (.int .u64 (((ev.h + YL ev.e) % 18446744073709551616 + bits BinOp.xor .u64 (bits BinOp.and .u64 ev.e ev.f) (bits BinOp.and .u64 (Z5 ev.e) ev.g)) % 18446744073709551616))) :: (some 180, .is (.int .i64 (i : Int))) :: (some 181, .is (.pointer (some ⟨3, i, none⟩))) :: (some 182, .is (.int .u64 (Qb Xr i))) :: (some 183, .is (.int .i64 64)) :: (some 184, .is (.int .i64 0)) :: (some 185, .is (.int .u64 0)) :: (some 186, .is (.int .u64 (Qb Xr i))) :: (some 187, .is (.int .u64 ((((ev.h + YL ev.e) % 18446744073709551616 + bits BinOp.xor .u64 (bits BinOp.and .u64 ev.e ev.f) (bits BinOp.and .u64 (Z5 ev.e) ev.g)) % 18446744073709551616 + Qb Xr i) % 18446744073709551616))) :: (some 188, .is (.int .i64 (i : Int))) :: (some 189, .is (.pointer (some ⟨W88.heap.size, i, none⟩))) :: (some 190, .is (.int .u64 (Qb (Qc zs 64) i))) :: (some 191, .is (.int .u64 (((((ev.h + YL ev.e) % 18446744073709551616 + bits BinOp.xor .u64 (bits BinOp.and .u64 ev.e ev.f) (bits BinOp.and .u64 (Z5 ev.e) ev.g)) % 18446744073709551616 + Qb Xr i) % 18446744073709551616 + Qb (Qc zs 64) i) % 18446744073709551616))) :: (some 192, .is (.int .i64 64)) :: []) [[], [0], [], [2], [], [4], [], [3, 5, 6], [1, 7], [], [9], [], [11], [10, 12], [], [14], [15], [], [17], [16, 18], [13, 19], [8, 20], [], [22], [23], [], [25], [26], [24, 27], [21, 28], [], [30], [31], [29, 32], []] (by kernel_rfl) (by kernel_rfl) (by kernel_rfl) (by kernel_rfl) (by kernel_rfl) (by kernel_rfl) (by kernel_rfl) (by exact trivial) ?_ ?_
                .
                  refine Qd.cons (fun Wd hd => ?_) ?_
                  .
                    exact DV.dr (QA (o1 := 7) rfl Tryz.underlying68 Qh rfl rfl (by decide) rfl) ⟨Below.refl _ _, rfl⟩
                  refine Qd.cons (fun Wd hd => ?_) ?_
                  .
                    have k138 := k138.below hd
                    exact DV.dr (QN rfl Qz rfl (k138.cell (k := 7) rfl)) ⟨Below.refl _ _, rfl⟩
                  refine Qd.cons (fun Wd hd => ?_) ?_
                  .
                    exact DV.dr (QA (o1 := 4) rfl Tryz.underlying68 Qh rfl rfl (by decide) rfl) ⟨Below.refl _ _, rfl⟩
                  refine Qd.cons (fun Wd hd => ?_) ?_
                  .
                    have k138 := k138.below hd
                    exact DV.dr (QN rfl Qz rfl (k138.cell (k := 4) rfl)) ⟨Below.refl _ _, rfl⟩
                  refine Qd.cons (fun Wd hd => ?_) ?_
                  .
                    exact DV.dr (QA (o1 := 3) rfl Tryz.underlying123 ZU rfl rfl (by decide) rfl) ⟨Below.refl _ _, rfl⟩
                  refine Qd.cons (fun Wd hd => ?_) ?_
                  .
                    have k17 := k17.below hd
                    exact DV.dr (YI (cs := [.int .i64 14, .int .i64 18, .int .i64 41]) rfl Ye rfl (k17.part 3 3) rfl) ⟨Below.refl _ _, rfl⟩
                  refine Qd.cons (fun Wd hd => ?_) ?_
                  .
                    exact DV.dr (Qi rfl rfl) ⟨Below.refl _ _, rfl⟩
                  refine Qd.cons (fun Wd hd => ?_) ?_
                  .
                    exact DR.mono (Ur rfl Tryz.func106 rfl rfl rfl ((show CV _ _ [_, _, _, _] _ (fun v _ => v = .int .u64 (YL ev.e)) from K0 (Vb ev.e 14 18 41 Wd hokv.2.2.2.2.1 (by decide) (by decide) (by decide))))) (fun v W' ⟨h, hb⟩ => ⟨hb, (by rw [h]; exact rfl)⟩)
                  refine Qd.cons (fun Wd hd => ?_) ?_
                  .
                    exact DV.dr (XA rfl rfl rfl (X7 _)) ⟨Below.refl _ _, rfl⟩
                  refine Qd.cons (fun Wd hd => ?_) ?_
                  .
                    exact DV.dr (QA (o1 := 4) rfl Tryz.underlying68 Qh rfl rfl (by decide) rfl) ⟨Below.refl _ _, rfl⟩
                  refine Qd.cons (fun Wd hd => ?_) ?_
                  .
                    have k138 := k138.below hd
                    exact DV.dr (QN rfl Qz rfl (k138.cell (k := 4) rfl)) ⟨Below.refl _ _, rfl⟩
                  refine Qd.cons (fun Wd hd => ?_) ?_
                  .
                    exact DV.dr (QA (o1 := 5) rfl Tryz.underlying68 Qh rfl rfl (by decide) rfl) ⟨Below.refl _ _, rfl⟩
                  refine Qd.cons (fun Wd hd => ?_) ?_
                  .
                    have k138 := k138.below hd
                    exact DV.dr (QN rfl Qz rfl (k138.cell (k := 5) rfl)) ⟨Below.refl _ _, rfl⟩
                  refine Qd.cons (fun Wd hd => ?_) ?_
                  .
                    exact DV.dr (Vo (r := bits BinOp.and .u64 ev.e ev.f) rfl rfl rfl rfl) ⟨Below.refl _ _, rfl⟩
                  refine Qd.cons (fun Wd hd => ?_) ?_
                  .
                    exact DV.dr (QA (o1 := 4) rfl Tryz.underlying68 Qh rfl rfl (by decide) rfl) ⟨Below.refl _ _, rfl⟩
                  refine Qd.cons (fun Wd hd => ?_) ?_
                  .
                    have k138 := k138.below hd
                    exact DV.dr (QN rfl Qz rfl (k138.cell (k := 4) rfl)) ⟨Below.refl _ _, rfl⟩
                  refine Qd.cons (fun Wd hd => ?_) ?_
                  .
                    exact DV.dr (QjE rfl rfl) ⟨Below.refl _ _, rfl⟩
                  refine Qd.cons (fun Wd hd => ?_) ?_
                  .
                    exact DV.dr (QA (o1 := 6) rfl Tryz.underlying68 Qh rfl rfl (by decide) rfl) ⟨Below.refl _ _, rfl⟩
                  refine Qd.cons (fun Wd hd => ?_) ?_
                  .
                    have k138 := k138.below hd
                    exact DV.dr (QN rfl Qz rfl (k138.cell (k := 6) rfl)) ⟨Below.refl _ _, rfl⟩
                  refine Qd.cons (fun Wd hd => ?_) ?_
                  .
                    exact DV.dr (Vo (r := bits BinOp.and .u64 (Z5 ev.e) ev.g) rfl rfl rfl rfl) ⟨Below.refl _ _, rfl⟩
                  refine Qd.cons (fun Wd hd => ?_) ?_
                  .
                    exact DV.dr (JC (r := bits BinOp.xor .u64 (bits BinOp.and .u64 ev.e ev.f) (bits BinOp.and .u64 (Z5 ev.e) ev.g)) rfl rfl rfl rfl) ⟨Below.refl _ _, rfl⟩
                  refine Qd.cons (fun Wd hd => ?_) ?_
                  .
                    exact DV.dr (XA rfl rfl rfl (X7 _)) ⟨Below.refl _ _, rfl⟩
                  refine Qd.cons (fun Wd hd => ?_) ?_
                  .
                    exact DV.dr (Qi rfl rfl) ⟨Below.refl _ _, rfl⟩
                  refine Qd.cons (fun Wd hd => ?_) ?_
                  .
                    exact DV.dr (QA (o1 := i) rfl Tryz.underlying125 Qh rfl rfl (by omega) (by first | (simp; done) | omega)) ⟨Below.refl _ _, rfl⟩
                  refine Qd.cons (fun Wd hd => ?_) ?_
                  .
                    have hT := hT.below hd
                    exact DV.dr (QN rfl Qz rfl (hT.1.ro i (by omega))) ⟨Below.refl _ _, rfl⟩
                  refine Qd.cons (fun Wd hd => ?_) ?_
                  .
                    exact DV.dr (Qi rfl rfl) ⟨Below.refl _ _, rfl⟩
                  refine Qd.cons (fun Wd hd => ?_) ?_
                  .
                    exact DV.dr (Yb (r := 0) rfl rfl rfl (by decide)) ⟨Below.refl _ _, rfl⟩
                  refine Qd.cons (fun Wd hd => ?_) ?_
                  .
                    exact DV.dr (ZW (r := 0) rfl Tryz.underlying3 Tryz.underlying75 rfl (by decide)) ⟨Below.refl _ _, rfl⟩
                  refine Qd.cons (fun Wd hd => ?_) ?_
                  .
                    exact DV.dr (Et (r := Qb Xr i) rfl rfl rfl (by decide) (by decide) (Int.ediv_one _)) ⟨Below.refl _ _, rfl⟩
                  refine Qd.cons (fun Wd hd => ?_) ?_
                  .
                    exact DV.dr (XA rfl rfl rfl (X7 _)) ⟨Below.refl _ _, rfl⟩
                  refine Qd.cons (fun Wd hd => ?_) ?_
                  .
                    exact DV.dr (Qi rfl rfl) ⟨Below.refl _ _, rfl⟩
                  refine Qd.cons (fun Wd hd => ?_) ?_
                  .
                    exact DV.dr (QA (o1 := i) rfl Tryz.underlying125 Qh rfl rfl (by omega) (by first | (simp; done) | omega)) ⟨Below.refl _ _, rfl⟩
                  refine Qd.cons (fun Wd hd => ?_) ?_
                  .
                    have k95 := k95.below hd
                    exact DV.dr (QN rfl Qz rfl (k95.cell (k := i) (JH (by rw [show (Qc zs 64).length = 80 from (Xe _ _)]; exact (by omega))))) ⟨Below.refl _ _, rfl⟩
                  refine Qd.cons (fun Wd hd => ?_) ?_
                  .
                    exact DV.dr (XA rfl rfl rfl (X7 _)) ⟨Below.refl _ _, rfl⟩
                  refine Qd.cons (fun Wd hd => ?_) ?_
                  .
                    exact DV.dr (Qi rfl rfl) ⟨Below.refl _ _, rfl⟩
                  exact trivial
                .
                  intro W148 b149
                  replace hT := hT.below b149
                  replace hA := hA.below b149
                  replace k17 := k17.below b149
                  replace k68 := k68.below b149
                  replace k95 := k95.below b149
                  replace k138 := k138.below b149
                  replace hB := Qy hB b149
                  replace hL := LL.below hL b149
                  refine WL.get (Ur rfl Tryz.func105 rfl rfl rfl ((show CV _ _ [_, _] _ (fun v _ => v = .int .u64 (ZC (Qc zs 64) i ev)) from CV.mono (U8 (XQ (((((ev.h + YL ev.e) % 18446744073709551616 + bits BinOp.xor .u64 (bits BinOp.and .u64 ev.e ev.f) (bits BinOp.and .u64 (Z5 ev.e) ev.g)) % 18446744073709551616 + Qb Xr i) % 18446744073709551616 + Qb (Qc zs 64) i) % 18446744073709551616) W148 (J7 _))) fun v _ _ h => h.trans (congrArg (Value.int .u64) (show ((((ev.h + YL ev.e) % 18446744073709551616 + bits BinOp.xor .u64 (bits BinOp.and .u64 ev.e ev.f) (bits BinOp.and .u64 (Z5 ev.e) ev.g)) % 18446744073709551616 + Qb Xr i) % 18446744073709551616 + Qb (Qc zs 64) i) % 18446744073709551616 = ZC (Qc zs 64) i ev from QiS (Qc zs 64) i ev hokv))))) rfl rfl ?_
                  rintro _ W151 ⟨rfl, b150⟩
                  replace hT := hT.below b150
                  replace hA := hA.below b150
                  replace k17 := k17.below b150
                  replace k68 := k68.below b150
                  replace k95 := k95.below b150
                  replace k138 := k138.below b150
                  replace hB := Qy hB b150
                  replace hL := LL.below hL b150
                  refine WL.val (Qv rfl rfl) rfl rfl ?_
                  refine WL.nil ?_
                  refine hK147 ?_
                  refine WC.seq fun K152 hK152 => ?_
                  refine WC.drawM 25 [(some 194, .is (.pointer (some ⟨W117.heap.size, 0, none⟩))), (some 195, .is (.int .u64 ev.a)), (some 196, .is (.pointer (some ⟨w.heap.size, 0, none⟩))), (some 197, .is (.agg #[.int .i64 28, .int .i64 34, .int .i64 39])), (some 198, .is (.int .i64 64)), (some 199, .is (.int .u64 (Uw ev.a))), (some 200, .is (.pointer (some ⟨W117.heap.size, 0, none⟩))), (some 201, .is (.int .u64 ev.a)), (some 202, .is (.pointer (some ⟨W117.heap.size, 1, none⟩))), (some 203, .is (.int .u64 ev.b)), (some 204, .is (.int .u64 (bits BinOp.and .u64 ev.a ev.b))), (some 205, .is (.pointer (some ⟨W117.heap.size, 0, none⟩))), (some 206, .is (.int .u64 ev.a)), (some 207, .is (.pointer (some ⟨W117.heap.size, 2, none⟩))), (some 208, .is (.int .u64 ev.c)), (some 209, .is (.int .u64 (bits BinOp.and .u64 ev.a ev.c))), (some 210, .is (.int .u64 (bits BinOp.xor .u64 (bits BinOp.and .u64 ev.a ev.b) (bits BinOp.and .u64 ev.a ev.c)))), (some 211, .is (.pointer (some ⟨W117.heap.size, 1, none⟩))), (some 212, .is (.int .u64 ev.b)), (some 213, .is (.pointer (some ⟨W117.heap.size, 2, none⟩))), (some 214, .is (.int .u64 ev.c)), (some 215, .is (.int .u64 (bits BinOp.and .u64 ev.b ev.c))), (some 216, .is (.int .u64 (bits BinOp.xor .u64 (bits BinOp.xor .u64 (bits BinOp.and .u64 ev.a ev.b) (bits BinOp.and .u64 ev.a ev.c)) (bits BinOp.and .u64 ev.b ev.c)))), (some 217, .is (.int .u64 ((Uw ev.a + bits BinOp.xor .u64 (bits BinOp.xor .u64 (bits BinOp.and .u64 ev.a ev.b) (bits BinOp.and .u64 ev.a ev.c)) (bits BinOp.and .u64 ev.b ev.c)) % 18446744073709551616))), (some 218, .is (.int .i64 64))] [[], [0], [], [2], [], [1, 3, 4], [], [6], [], [8], [7, 9], [], [11], [], [13], [12, 14], [10, 15], [], [17], [], [19], [18, 20], [16, 21], [5, 22], []] (by kernel_rfl) (by kernel_rfl) (by kernel_rfl) (by kernel_rfl) (by kernel_rfl) (by kernel_rfl) (by kernel_rfl) (by exact trivial) ?_ ?_
                  .
                    refine Qd.cons (fun Wd hd => ?_) ?_
                    .
                      exact DV.dr (QA (o1 := 0) rfl Tryz.underlying68 Qh rfl rfl (by decide) rfl) ⟨Below.refl _ _, rfl⟩
                    refine Qd.cons (fun Wd hd => ?_) ?_
                    .
                      have k138 := k138.below hd
                      exact DV.dr (QN rfl Qz rfl (k138.cell (k := 0) rfl)) ⟨Below.refl _ _, rfl⟩
                    refine Qd.cons (fun Wd hd => ?_) ?_
                    .
                      exact DV.dr (QA (o1 := 0) rfl Tryz.underlying123 ZU rfl rfl (by decide) rfl) ⟨Below.refl _ _, rfl⟩
                    refine Qd.cons (fun Wd hd => ?_) ?_
                    .
                      have k17 := k17.below hd
                      exact DV.dr (YI (cs := [.int .i64 28, .int .i64 34, .int .i64 39]) rfl Ye rfl (k17.part 0 3) rfl) ⟨Below.refl _ _, rfl⟩
                    refine Qd.cons (fun Wd hd => ?_) ?_
                    .
                      exact DV.dr (Qi rfl rfl) ⟨Below.refl _ _, rfl⟩
                    refine Qd.cons (fun Wd hd => ?_) ?_
                    .
                      exact DR.mono (Ur rfl Tryz.func106 rfl rfl rfl ((show CV _ _ [_, _, _, _] _ (fun v _ => v = .int .u64 (Uw ev.a)) from K0 (Vb ev.a 28 34 39 Wd hokv.1 (by decide) (by decide) (by decide))))) (fun v W' ⟨h, hb⟩ => ⟨hb, (by rw [h]; exact rfl)⟩)
                    refine Qd.cons (fun Wd hd => ?_) ?_
                    .
                      exact DV.dr (QA (o1 := 0) rfl Tryz.underlying68 Qh rfl rfl (by decide) rfl) ⟨Below.refl _ _, rfl⟩
                    refine Qd.cons (fun Wd hd => ?_) ?_
                    .
                      have k138 := k138.below hd
                      exact DV.dr (QN rfl Qz rfl (k138.cell (k := 0) rfl)) ⟨Below.refl _ _, rfl⟩
                    refine Qd.cons (fun Wd hd => ?_) ?_
                    .
                      exact DV.dr (QA (o1 := 1) rfl Tryz.underlying68 Qh rfl rfl (by decide) rfl) ⟨Below.refl _ _, rfl⟩
                    refine Qd.cons (fun Wd hd => ?_) ?_
                    .
                      have k138 := k138.below hd
                      exact DV.dr (QN rfl Qz rfl (k138.cell (k := 1) rfl)) ⟨Below.refl _ _, rfl⟩
                    refine Qd.cons (fun Wd hd => ?_) ?_
                    .
                      exact DV.dr (Vo (r := bits BinOp.and .u64 ev.a ev.b) rfl rfl rfl rfl) ⟨Below.refl _ _, rfl⟩
                    refine Qd.cons (fun Wd hd => ?_) ?_
                    .
                      exact DV.dr (QA (o1 := 0) rfl Tryz.underlying68 Qh rfl rfl (by decide) rfl) ⟨Below.refl _ _, rfl⟩
                    refine Qd.cons (fun Wd hd => ?_) ?_
                    .
                      have k138 := k138.below hd
                      exact DV.dr (QN rfl Qz rfl (k138.cell (k := 0) rfl)) ⟨Below.refl _ _, rfl⟩
                    refine Qd.cons (fun Wd hd => ?_) ?_
                    .
                      exact DV.dr (QA (o1 := 2) rfl Tryz.underlying68 Qh rfl rfl (by decide) rfl) ⟨Below.refl _ _, rfl⟩
                    refine Qd.cons (fun Wd hd => ?_) ?_
                    .
                      have k138 := k138.below hd
                      exact DV.dr (QN rfl Qz rfl (k138.cell (k := 2) rfl)) ⟨Below.refl _ _, rfl⟩
                    refine Qd.cons (fun Wd hd => ?_) ?_
                    .
                      exact DV.dr (Vo (r := bits BinOp.and .u64 ev.a ev.c) rfl rfl rfl rfl) ⟨Below.refl _ _, rfl⟩
                    refine Qd.cons (fun Wd hd => ?_) ?_
                    .
                      exact DV.dr (JC (r := bits BinOp.xor .u64 (bits BinOp.and .u64 ev.a ev.b) (bits BinOp.and .u64 ev.a ev.c)) rfl rfl rfl rfl) ⟨Below.refl _ _, rfl⟩
                    refine Qd.cons (fun Wd hd => ?_) ?_
                    .
                      exact DV.dr (QA (o1 := 1) rfl Tryz.underlying68 Qh rfl rfl (by decide) rfl) ⟨Below.refl _ _, rfl⟩
                    refine Qd.cons (fun Wd hd => ?_) ?_
                    .
                      have k138 := k138.below hd
                      exact DV.dr (QN rfl Qz rfl (k138.cell (k := 1) rfl)) ⟨Below.refl _ _, rfl⟩
                    refine Qd.cons (fun Wd hd => ?_) ?_
                    .
                      exact DV.dr (QA (o1 := 2) rfl Tryz.underlying68 Qh rfl rfl (by decide) rfl) ⟨Below.refl _ _, rfl⟩
                    refine Qd.cons (fun Wd hd => ?_) ?_
                    .
                      have k138 := k138.below hd
                      exact DV.dr (QN rfl Qz rfl (k138.cell (k := 2) rfl)) ⟨Below.refl _ _, rfl⟩
                    refine Qd.cons (fun Wd hd => ?_) ?_
                    .
                      exact DV.dr (Vo (r := bits BinOp.and .u64 ev.b ev.c) rfl rfl rfl rfl) ⟨Below.refl _ _, rfl⟩
                    refine Qd.cons (fun Wd hd => ?_) ?_
                    .
                      exact DV.dr (JC (r := bits BinOp.xor .u64 (bits BinOp.xor .u64 (bits BinOp.and .u64 ev.a ev.b) (bits BinOp.and .u64 ev.a ev.c)) (bits BinOp.and .u64 ev.b ev.c)) rfl rfl rfl rfl) ⟨Below.refl _ _, rfl⟩
                    refine Qd.cons (fun Wd hd => ?_) ?_
                    .
                      exact DV.dr (XA rfl rfl rfl (X7 _)) ⟨Below.refl _ _, rfl⟩
                    refine Qd.cons (fun Wd hd => ?_) ?_
                    .
                      exact DV.dr (Qi rfl rfl) ⟨Below.refl _ _, rfl⟩
                    exact trivial
                  .
                    intro W153 b154
                    replace hT := hT.below b154
                    replace hA := hA.below b154
                    replace k17 := k17.below b154
                    replace k68 := k68.below b154
                    replace k95 := k95.below b154
                    replace k138 := k138.below b154
                    replace hB := Qy hB b154
                    replace hL := LL.below hL b154
                    refine WL.get (Ur rfl Tryz.func105 rfl rfl rfl ((show CV _ _ [_, _] _ (fun v _ => v = .int .u64 (UT ev)) from CV.mono (U8 (XQ ((Uw ev.a + bits BinOp.xor .u64 (bits BinOp.xor .u64 (bits BinOp.and .u64 ev.a ev.b) (bits BinOp.and .u64 ev.a ev.c)) (bits BinOp.and .u64 ev.b ev.c)) % 18446744073709551616) W153 (J7 _))) fun v _ _ h => h.trans (congrArg (Value.int .u64) (show (Uw ev.a + bits BinOp.xor .u64 (bits BinOp.xor .u64 (bits BinOp.and .u64 ev.a ev.b) (bits BinOp.and .u64 ev.a ev.c)) (bits BinOp.and .u64 ev.b ev.c)) % 18446744073709551616 = UT ev from QiO ev hokv))))) rfl rfl ?_
                    rintro _ W156 ⟨rfl, b155⟩
                    replace hT := hT.below b155
                    replace hA := hA.below b155
                    replace k17 := k17.below b155
                    replace k68 := k68.below b155
                    replace k95 := k95.below b155
                    replace k138 := k138.below b155
                    replace hB := Qy hB b155
                    replace hL := LL.below hL b155
                    refine WL.val (Qv rfl rfl) rfl rfl ?_
                    refine WL.nil ?_
                    refine hK152 ?_
                    refine WC.drawM 23 [(some 220, .is (.int .u64 (ZC (Qc zs 64) i ev))), (some 221, .is (.int .u64 (UT ev))), (some 222, .is (.int .u64 ((ZC (Qc zs 64) i ev + UT ev) % 18446744073709551616))), (some 223, .is (.int .i64 64)), (some 224, .is (.int .u64 ((ZC (Qc zs 64) i ev + UT ev) % 18446744073709551616))), (some 225, .is (.pointer (some ⟨W117.heap.size, 0, none⟩))), (some 226, .is (.int .u64 ev.a)), (some 227, .is (.pointer (some ⟨W117.heap.size, 1, none⟩))), (some 228, .is (.int .u64 ev.b)), (some 229, .is (.pointer (some ⟨W117.heap.size, 2, none⟩))), (some 230, .is (.int .u64 ev.c)), (some 231, .is (.pointer (some ⟨W117.heap.size, 3, none⟩))), (some 232, .is (.int .u64 ev.d)), (some 233, .is (.int .u64 (ZC (Qc zs 64) i ev))), (some 234, .is (.int .u64 ((ev.d + ZC (Qc zs 64) i ev) % 18446744073709551616))), (some 235, .is (.int .i64 64)), (some 236, .is (.int .u64 ((ev.d + ZC (Qc zs 64) i ev) % 18446744073709551616))), (some 237, .is (.pointer (some ⟨W117.heap.size, 4, none⟩))), (some 238, .is (.int .u64 ev.e)), (some 239, .is (.pointer (some ⟨W117.heap.size, 5, none⟩))), (some 240, .is (.int .u64 ev.f)), (some 241, .is (.pointer (some ⟨W117.heap.size, 6, none⟩))), (some 242, .is (.int .u64 ev.g))] [[], [], [0, 1], [], [2, 3], [], [5], [], [7], [], [9], [], [11], [], [12, 13], [], [14, 15, 4], [], [17], [], [19], [], [21]] (by kernel_rfl) (by kernel_rfl) (by kernel_rfl) (by kernel_rfl) (by kernel_rfl) (by kernel_rfl) (by kernel_rfl) (by exact trivial) ?_ ?_
                    .
                      refine Qd.cons (fun Wd hd => ?_) ?_
                      .
                        exact DV.dr (Qi rfl rfl) ⟨Below.refl _ _, rfl⟩
                      refine Qd.cons (fun Wd hd => ?_) ?_
                      .
                        exact DV.dr (Qi rfl rfl) ⟨Below.refl _ _, rfl⟩
                      refine Qd.cons (fun Wd hd => ?_) ?_
                      .
                        exact DV.dr (XA rfl rfl rfl (X7 _)) ⟨Below.refl _ _, rfl⟩
                      refine Qd.cons (fun Wd hd => ?_) ?_
                      .
                        exact DV.dr (Qi rfl rfl) ⟨Below.refl _ _, rfl⟩
                      refine Qd.cons (fun Wd hd => ?_) ?_
                      .
                        exact DR.mono (Ur rfl Tryz.func105 rfl rfl rfl ((show CV _ _ [_, _] _ (fun v _ => v = .int .u64 ((ZC (Qc zs 64) i ev + UT ev) % 18446744073709551616)) from CV.mono (U8 (XQ ((ZC (Qc zs 64) i ev + UT ev) % 18446744073709551616) Wd (J7 _))) fun v _ _ h => h.trans (congrArg (Value.int .u64) (show (ZC (Qc zs 64) i ev + UT ev) % 18446744073709551616 = (ZC (Qc zs 64) i ev + UT ev) % 18446744073709551616 from Fv _ _))))) (fun v W' ⟨h, hb⟩ => ⟨hb, (by rw [h]; exact rfl)⟩)
                      refine Qd.cons (fun Wd hd => ?_) ?_
                      .
                        exact DV.dr (QA (o1 := 0) rfl Tryz.underlying68 Qh rfl rfl (by decide) rfl) ⟨Below.refl _ _, rfl⟩
                      refine Qd.cons (fun Wd hd => ?_) ?_
                      .
                        have k138 := k138.below hd
                        exact DV.dr (QN rfl Qz rfl (k138.cell (k := 0) rfl)) ⟨Below.refl _ _, rfl⟩
                      refine Qd.cons (fun Wd hd => ?_) ?_
                      .
                        exact DV.dr (QA (o1 := 1) rfl Tryz.underlying68 Qh rfl rfl (by decide) rfl) ⟨Below.refl _ _, rfl⟩
                      refine Qd.cons (fun Wd hd => ?_) ?_
                      .
                        have k138 := k138.below hd
                        exact DV.dr (QN rfl Qz rfl (k138.cell (k := 1) rfl)) ⟨Below.refl _ _, rfl⟩
                      refine Qd.cons (fun Wd hd => ?_) ?_
                      .
                        exact DV.dr (QA (o1 := 2) rfl Tryz.underlying68 Qh rfl rfl (by decide) rfl) ⟨Below.refl _ _, rfl⟩
                      refine Qd.cons (fun Wd hd => ?_) ?_
                      .
                        have k138 := k138.below hd
                        exact DV.dr (QN rfl Qz rfl (k138.cell (k := 2) rfl)) ⟨Below.refl _ _, rfl⟩
                      refine Qd.cons (fun Wd hd => ?_) ?_
                      .
                        exact DV.dr (QA (o1 := 3) rfl Tryz.underlying68 Qh rfl rfl (by decide) rfl) ⟨Below.refl _ _, rfl⟩
                      refine Qd.cons (fun Wd hd => ?_) ?_
                      .
                        have k138 := k138.below hd
                        exact DV.dr (QN rfl Qz rfl (k138.cell (k := 3) rfl)) ⟨Below.refl _ _, rfl⟩
                      refine Qd.cons (fun Wd hd => ?_) ?_
                      .
                        exact DV.dr (Qi rfl rfl) ⟨Below.refl _ _, rfl⟩
                      refine Qd.cons (fun Wd hd => ?_) ?_
                      .
                        exact DV.dr (XA rfl rfl rfl (X7 _)) ⟨Below.refl _ _, rfl⟩
                      refine Qd.cons (fun Wd hd => ?_) ?_
                      .
                        exact DV.dr (Qi rfl rfl) ⟨Below.refl _ _, rfl⟩
                      refine Qd.cons (fun Wd hd => ?_) ?_
                      .
                        exact DR.mono (Ur rfl Tryz.func105 rfl rfl rfl ((show CV _ _ [_, _] _ (fun v _ => v = .int .u64 ((ev.d + ZC (Qc zs 64) i ev) % 18446744073709551616)) from CV.mono (U8 (XQ ((ev.d + ZC (Qc zs 64) i ev) % 18446744073709551616) Wd (J7 _))) fun v _ _ h => h.trans (congrArg (Value.int .u64) (show (ev.d + ZC (Qc zs 64) i ev) % 18446744073709551616 = (ev.d + ZC (Qc zs 64) i ev) % 18446744073709551616 from Fv _ _))))) (fun v W' ⟨h, hb⟩ => ⟨hb, (by rw [h]; exact rfl)⟩)
                      refine Qd.cons (fun Wd hd => ?_) ?_
                      .
                        exact DV.dr (QA (o1 := 4) rfl Tryz.underlying68 Qh rfl rfl (by decide) rfl) ⟨Below.refl _ _, rfl⟩
                      refine Qd.cons (fun Wd hd => ?_) ?_
                      .
                        have k138 := k138.below hd
                        exact DV.dr (QN rfl Qz rfl (k138.cell (k := 4) rfl)) ⟨Below.refl _ _, rfl⟩
                      refine Qd.cons (fun Wd hd => ?_) ?_
                      .
                        exact DV.dr (QA (o1 := 5) rfl Tryz.underlying68 Qh rfl rfl (by decide) rfl) ⟨Below.refl _ _, rfl⟩
                      refine Qd.cons (fun Wd hd => ?_) ?_
                      .
                        have k138 := k138.below hd
                        exact DV.dr (QN rfl Qz rfl (k138.cell (k := 5) rfl)) ⟨Below.refl _ _, rfl⟩
                      refine Qd.cons (fun Wd hd => ?_) ?_
                      .
                        exact DV.dr (QA (o1 := 6) rfl Tryz.underlying68 Qh rfl rfl (by decide) rfl) ⟨Below.refl _ _, rfl⟩
                      refine Qd.cons (fun Wd hd => ?_) ?_
                      .
                        have k138 := k138.below hd
                        exact DV.dr (QN rfl Qz rfl (k138.cell (k := 6) rfl)) ⟨Below.refl _ _, rfl⟩
                      exact trivial
                    .
                      intro W157 b158
                      replace hT := hT.below b158
                      replace hA := hA.below b158
                      replace k17 := k17.below b158
                      replace k68 := k68.below b158
                      replace k95 := k95.below b158
                      replace k138 := k138.below b158
                      replace hB := Qy hB b158
                      replace hL := LL.below hL b158
                      refine WL.val (XK rfl rfl (QkW _ _ _ _ _ _ _ _)) rfl rfl ?_
                      refine WL.do (XJ (cs' := [.int .u64 ((ZC (Qc zs 64) i ev + UT ev) % 18446744073709551616), .int .u64 ev.a, .int .u64 ev.b, .int .u64 ev.c, .int .u64 ((ev.d + ZC (Qc zs 64) i ev) % 18446744073709551616), .int .u64 ev.e, .int .u64 ev.f, .int .u64 ev.g]) (vs := [.int .u64 ((ZC (Qc zs 64) i ev + UT ev) % 18446744073709551616), .int .u64 ev.a, .int .u64 ev.b, .int .u64 ev.c, .int .u64 ((ev.d + ZC (Qc zs 64) i ev) % 18446744073709551616), .int .u64 ev.e, .int .u64 ev.f, .int .u64 ev.g]) rfl Jc rfl rfl rfl (QF rfl (QF rfl (QF rfl (QF rfl (QF rfl (QF rfl (QF rfl (QF rfl VH)))))))) k138 rfl (Nat.le_of_ble_eq_true rfl) rfl) rfl ?_
                      rintro _ W159 ⟨k161, o160⟩
                      replace k17 := k17.other o160 n132
                      replace k68 := k68.other o160 n133
                      replace k95 := k95.other o160 n134
                      clear k138
                      replace hT := hT.only o160 (.head _)
                      replace hA := hA.only o160 (.head _)
                      replace hB := o160.below hB l135
                      replace hL := LL.only hL o160
                      refine WL.nil ?_
                      refine hK146 ?_
                      refine WC.region ?_
                      refine WL.val (Qi rfl rfl) rfl rfl ?_
                      refine WL.val (XA (r := (i : Int) + 1) rfl rfl rfl (QX (by omega))) rfl rfl ?_
                      refine WL.val (Qv rfl rfl) rfl rfl ?_
                      refine WL.nil ?_
                      replace k161 : Xl W159 W117.heap.size [.int .u64 (Ql (Qc zs 64) (Qu st) (i + 1)).a, .int .u64 (Ql (Qc zs 64) (Qu st) (i + 1)).b, .int .u64 (Ql (Qc zs 64) (Qu st) (i + 1)).c, .int .u64 (Ql (Qc zs 64) (Qu st) (i + 1)).d, .int .u64 (Ql (Qc zs 64) (Qu st) (i + 1)).e, .int .u64 (Ql (Qc zs 64) (Qu st) (i + 1)).f, .int .u64 (Ql (Qc zs 64) (Qu st) (i + 1)).g, .int .u64 (Ql (Qc zs 64) (Qu st) (i + 1)).h] := by show Xl _ _ [.int .u64 (ZV (Qc zs 64) i (Ql (Qc zs 64) (Qu st) i)).a, .int .u64 (ZV (Qc zs 64) i (Ql (Qc zs 64) (Qu st) i)).b, .int .u64 (ZV (Qc zs 64) i (Ql (Qc zs 64) (Qu st) i)).c, .int .u64 (ZV (Qc zs 64) i (Ql (Qc zs 64) (Qu st) i)).d, .int .u64 (ZV (Qc zs 64) i (Ql (Qc zs 64) (Qu st) i)).e, .int .u64 (ZV (Qc zs 64) i (Ql (Qc zs 64) (Qu st) i)).f, .int .u64 (ZV (Qc zs 64) i (Ql (Qc zs 64) (Qu st) i)).g, .int .u64 (ZV (Qc zs 64) i (Ql (Qc zs 64) (Qu st) i)).h]; rw [<- hev]; exact k161
                      exact hK141 (i + 1) ⟨(by omega), hB, hL, hT, hA, k17, k68, k95, k161⟩ (by omega) (by repeat first | exact trivial | exact And.intro rfl trivial | refine And.intro rfl ?_ | refine And.intro (congrArg (fun z : Int => some (Value.int .i64 z)) (by omega)) ?_ | refine And.intro (congrArg (fun z : Bool => some (Value.bool z)) (by first | exact (decide_eq_true (by omega)).symm | exact (decide_eq_false (by omega)).symm)) ?_)
              .
                replace c145 := of_decide_eq_false c145
                refine WC.exit ?_
                refine hK139 ?_
                refine WC.seq fun K162 hK162 => ?_
                refine WC.region ?_
                refine WL.val (Qv rfl rfl) rfl rfl ?_
                refine WL.nil ?_
                refine hK162 ?_
                refine WC.block ?_
                have hi7 : i = 80 := by omega
                subst hi7
                replace k138 : Xl W142 W117.heap.size (XD ev.list) := k138
                rw [hev] at k138
                replace k68 : Xl W142 W53.heap.size (XD ((QY st zs).take 0 ++ st.drop 0)) := by rw [List.take_zero, List.drop_zero, List.nil_append]; exact k68
                refine WC.loop (fun (i : Nat) => [(1, .int .i64 64), (5, .pointer (some ⟨w.heap.size, 0, none⟩)), (6, .int .i64 80), (7, ov2), (10, .pointer (some ⟨W53.heap.size, 0, none⟩)), (12, .int .i64 8), (13, .int .i64 ((q * 128 : Nat) : Int)), (17, .pointer (some ⟨W117.heap.size, 0, none⟩)), (21, .int .i64 (i : Int))]) (fun (i : Nat) W => i <= 8 /\ Below w.heap.size w W /\ LL (W117.heap.size :: W88.heap.size :: W53.heap.size :: w.heap.size :: L) W /\ Yi (W117.heap.size :: W88.heap.size :: W53.heap.size :: w.heap.size :: L) W /\ Zi 1 (W117.heap.size :: W88.heap.size :: W53.heap.size :: w.heap.size :: L) W ov2 ((Q8 D).map e8) /\ Xl W w.heap.size [.int .i64 28, .int .i64 34, .int .i64 39, .int .i64 14, .int .i64 18, .int .i64 41, .int .i64 1, .int .i64 8, .int .i64 7, .int .i64 19, .int .i64 61, .int .i64 6] /\ Xl W W53.heap.size (XD ((QY st zs).take i ++ st.drop i)) /\ Xl W W88.heap.size (XD (Qc zs 64)) /\ Xl W W117.heap.size (XD ((Ql (Qc zs 64) (Qu st) 80).list))) (fun (i : Nat) => 8 - i) 0 (by repeat first | exact trivial | exact And.intro rfl trivial | refine And.intro rfl ?_ | refine And.intro (congrArg (fun z : Int => some (Value.int .i64 z)) (by omega)) ?_ | refine And.intro (congrArg (fun z : Bool => some (Value.bool z)) (by first | exact (decide_eq_true (by omega)).symm | exact (decide_eq_false (by omega)).symm)) ?_) ⟨Nat.zero_le _, hB, hL, hT, hA, k17, k68, k95, k138⟩ ?_
                clear hT hA k17 k68 k95 k138 hB hL
                rintro K163 i W164 ⟨hi, hB, hL, hT, hA, k17, k68, k95, k138⟩ hK163
                refine WC.seq fun K165 hK165 => ?_
                refine WC.seq fun K166 hK166 => ?_
                refine WC.region ?_
                refine WL.val (Qi rfl rfl) rfl rfl ?_
                refine WL.val (VQ rfl rfl rfl) rfl rfl ?_
                refine WL.nil ?_
                refine hK166 ?_
                refine WC.cond rfl (fun c167 => ?_) (fun c167 => ?_)
                .
                  replace c167 := of_decide_eq_true c167
                  refine WC.skip ?_
                  refine hK165 ?_
                  refine WC.seq fun K168 hK168 => ?_
                  refine WC.block ?_
                  refine WC.drawM 10 [(some 248, .is (.int .i64 (i : Int))), (some 249, .is (.int .i64 (i : Int))), (some 250, .is (.pointer (some ⟨W53.heap.size, i, none⟩))), (some 251, .is (.int .u64 (Qb ((QY st zs).take i ++ st.drop i) i))), (some 252, .is (.int .i64 (i : Int))), (some 253, .is (.pointer (some ⟨W117.heap.size, i, none⟩))), (some 254, .is (.int .u64 (Qb ((Ql (Qc zs 64) (Qu st) 80).list) i))), (some 255, .is (.int .u64 ((Qb ((QY st zs).take i ++ st.drop i) i + Qb ((Ql (Qc zs 64) (Qu st) 80).list) i) % 18446744073709551616))), (some 256, .is (.int .i64 64)), (some 257, .is (.int .u64 (Qb (QY st zs) i)))] [[], [], [1], [2], [], [4], [5], [3, 6], [], [7, 8]] (by kernel_rfl) (by kernel_rfl) (by kernel_rfl) (by kernel_rfl) (by kernel_rfl) (by kernel_rfl) (by kernel_rfl) (by exact trivial) ?_ ?_
                  .
                    refine Qd.cons (fun Wd hd => ?_) ?_
                    .
                      exact DV.dr (Qi rfl rfl) ⟨Below.refl _ _, rfl⟩
                    refine Qd.cons (fun Wd hd => ?_) ?_
                    .
                      exact DV.dr (Qi rfl rfl) ⟨Below.refl _ _, rfl⟩
                    refine Qd.cons (fun Wd hd => ?_) ?_
                    .
                      exact DV.dr (QA (o1 := i) rfl Tryz.underlying68 Qh rfl rfl (by omega) (by first | (simp; done) | omega)) ⟨Below.refl _ _, rfl⟩
                    refine Qd.cons (fun Wd hd => ?_) ?_
                    .
                      have k68 := k68.below hd
                      exact DV.dr (QN rfl Qz rfl (k68.cell (k := i) (JH (by rw [show ((QY st zs).take i ++ st.drop i).length = 8 from (Um (Zm _ _) hsl hi)]; exact (by omega))))) ⟨Below.refl _ _, rfl⟩
                    refine Qd.cons (fun Wd hd => ?_) ?_
                    .
                      exact DV.dr (Qi rfl rfl) ⟨Below.refl _ _, rfl⟩
                    refine Qd.cons (fun Wd hd => ?_) ?_
                    .
                      exact DV.dr (QA (o1 := i) rfl Tryz.underlying68 Qh rfl rfl (by omega) (by first | (simp; done) | omega)) ⟨Below.refl _ _, rfl⟩
                    refine Qd.cons (fun Wd hd => ?_) ?_
                    .
                      have k138 := k138.below hd
                      exact DV.dr (QN rfl Qz rfl (k138.cell (k := i) (JH (by rw [show ((Ql (Qc zs 64) (Qu st) 80).list).length = 8 from rfl]; exact (by omega))))) ⟨Below.refl _ _, rfl⟩
                    refine Qd.cons (fun Wd hd => ?_) ?_
                    .
                      exact DV.dr (XA rfl rfl rfl (X7 _)) ⟨Below.refl _ _, rfl⟩
                    refine Qd.cons (fun Wd hd => ?_) ?_
                    .
                      exact DV.dr (Qi rfl rfl) ⟨Below.refl _ _, rfl⟩
                    refine Qd.cons (fun Wd hd => ?_) ?_
                    .
                      exact DR.mono (Ur rfl Tryz.func105 rfl rfl rfl ((show CV _ _ [_, _] _ (fun v _ => v = .int .u64 (Qb (QY st zs) i)) from CV.mono (U8 (XQ ((Qb ((QY st zs).take i ++ st.drop i) i + Qb ((Ql (Qc zs 64) (Qu st) 80).list) i) % 18446744073709551616) Wd (J7 _))) fun v _ _ h => h.trans (congrArg (Value.int .u64) (show (Qb ((QY st zs).take i ++ st.drop i) i + Qb ((Ql (Qc zs 64) (Qu st) 80).list) i) % 18446744073709551616 = Qb (QY st zs) i from by rw [Qjl (Zm _ _) hsl (by omega), Qc7 _ _ _ (by omega)]))))) (fun v W' ⟨h, hb⟩ => ⟨hb, (by rw [h]; exact rfl)⟩)
                    exact trivial
                  .
                    intro W169 b170
                    replace hT := hT.below b170
                    replace hA := hA.below b170
                    replace k17 := k17.below b170
                    replace k68 := k68.below b170
                    replace k95 := k95.below b170
                    replace k138 := k138.below b170
                    replace hB := Qy hB b170
                    replace hL := LL.below hL b170
                    refine WL.val (QA (o1 := i) rfl Tryz.underlying68 Qh rfl rfl (by omega) (by first | (simp; done) | omega)) rfl rfl ?_
                    refine WL.do (XJ (cs' := XD (((QY st zs).take i ++ st.drop i).set i (Qb (QY st zs) i))) (vs := [.int .u64 (Qb (QY st zs) i)]) rfl Qh rfl rfl rfl (QF rfl VH) k68 rfl (by rw [YH, show ((QY st zs).take i ++ st.drop i).length = 8 from (Um (Zm _ _) hsl hi)]; exact (by omega)) (QgR (by rw [show ((QY st zs).take i ++ st.drop i).length = 8 from (Um (Zm _ _) hsl hi)]; exact (by omega)))) rfl ?_
                    rintro _ W171 ⟨k173, o172⟩
                    replace k17 := k17.other o172 n71
                    replace k95 := k95.other o172 n99.symm
                    replace k138 := k138.other o172 n133.symm
                    clear k68
                    replace hT := hT.only o172 (.tail _ (.tail _ (.head _)))
                    replace hA := hA.only o172 (.tail _ (.tail _ (.head _)))
                    replace hB := o172.below hB l72
                    replace hL := LL.only hL o172
                    refine WL.nil ?_
                    refine hK168 ?_
                    refine WC.region ?_
                    refine WL.val (Qi rfl rfl) rfl rfl ?_
                    refine WL.val (XA (r := (i : Int) + 1) rfl rfl rfl (QX (by omega))) rfl rfl ?_
                    refine WL.val (Qv rfl rfl) rfl rfl ?_
                    refine WL.nil ?_
                    rw [Qcm (Zm _ _) hsl (by omega)] at k173
                    exact hK163 (i + 1) ⟨(by omega), hB, hL, hT, hA, k17, k173, k95, k138⟩ (by omega) (by repeat first | exact trivial | exact And.intro rfl trivial | refine And.intro rfl ?_ | refine And.intro (congrArg (fun z : Int => some (Value.int .i64 z)) (by omega)) ?_ | refine And.intro (congrArg (fun z : Bool => some (Value.bool z)) (by first | exact (decide_eq_true (by omega)).symm | exact (decide_eq_false (by omega)).symm)) ?_)
                .
                  replace c167 := of_decide_eq_false c167
                  refine WC.exit ?_
                  refine hK92 ?_
                  have hi8 : i = 8 := by omega
                  subst hi8
                  replace k68 : Xl W164 W53.heap.size (XD (QO QU (Q8 D) (q + 1))) := by have e : (QY st zs).take 8 ++ st.drop 8 = (QY st zs) := (by rw [List.take_of_length_le (by rw [Zm]; exact Nat.le_refl _), List.drop_eq_nil_of_le (by omega), List.append_nil]); rw [e, hst, hzs] at k68; exact k68
                  refine WC.region ?_
                  refine WL.val (Qi rfl rfl) rfl rfl ?_
                  refine WL.val (Qi rfl rfl) rfl rfl ?_
                  refine WL.val (G5 (r := 128) rfl rfl rfl (by decide)) rfl rfl ?_
                  refine WL.val (XA (r := (((q + 1) * 128 : Nat) : Int)) rfl rfl rfl (by rw [QX (by omega)]; omega)) rfl rfl ?_
                  refine WL.val (Qv rfl rfl) rfl rfl ?_
                  refine WL.nil ?_
                  replace hL := hL.less (fun x hx => (.tail _ (.tail _ hx)))
                  replace hT := hT.less (fun x hx => (.tail _ (.tail _ hx)))
                  replace hA := hA.less (fun x hx => (.tail _ (.tail _ hx)))
                  exact hK87 (q + 1) ⟨(by omega), hB, hL, hT, hA, k17, k68⟩ (by omega) (by repeat first | exact trivial | exact And.intro rfl trivial | refine And.intro rfl ?_ | refine And.intro (congrArg (fun z : Int => some (Value.int .i64 z)) (by omega)) ?_ | refine And.intro (congrArg (fun z : Bool => some (Value.bool z)) (by first | exact (decide_eq_true (by omega)).symm | exact (decide_eq_false (by omega)).symm)) ?_)
        .
          replace c91 := of_decide_eq_false c91
          refine WC.exit ?_
          refine hK85 ?_
          refine WC.seq fun K174 hK174 => ?_
          have hpm := (J5 D.length).2.2
          have hc_ := c91
          rw [hFm, hFl] at hc_
          have hqe : q = QD D.length / 128 := by omega
          subst hqe
          obtain ⟨st, hst⟩ : ∃ z, z = (QO QU (Q8 D) (QD D.length / 128)) := ⟨_, rfl⟩
          rw [<- hst] at k68
          have hsl : st.length = 8 := by rw [hst]; exact JR _ _
          have zhT := hT
          have zk17 := k17
          have zk68 := k68
          have zhB := hB
          have zhL := hL
          have hC : ZS W88 (W53.heap.size :: w.heap.size :: L) W88 := Below.refl _ _
          have h5 : V1 1 W88.heap.size (((Q3 st).take 0).map e8) (.slice none 0 0) W88 := .inl ⟨rfl, rfl, by decide⟩
          have htl : (Q3 st).length = 64 := QaM st
          refine WC.region ?_
          refine WL.val (Qv rfl rfl) rfl rfl ?_
          refine WL.nil ?_
          refine hK174 ?_
          refine WC.seq fun K175 hK175 => ?_
          refine WC.seq fun K176 hK176 => ?_
          refine WC.region ?_
          refine WL.val (Qv rfl rfl) rfl rfl ?_
          refine WL.nil ?_
          refine hK176 ?_
          refine WC.block ?_
          rw [show (0 : Nat) = 0 * 8 by omega] at h5
          refine WC.loop2 (fun (i : Nat) (ov3 : Value) => [(1, .int .i64 64), (10, .pointer (some ⟨W53.heap.size, 0, none⟩)), (22, ov3), (23, .int .i64 (i : Int))]) (fun (i : Nat) (ov3 : Value) W => i <= 8 /\ Below w.heap.size w W /\ LL (W53.heap.size :: w.heap.size :: L) W /\ Yi (W53.heap.size :: w.heap.size :: L) W /\ ZS W88 (W53.heap.size :: w.heap.size :: L) W /\ V1 1 W88.heap.size (((Q3 st).take (i * 8)).map e8) ov3 W /\ Xl W w.heap.size [.int .i64 28, .int .i64 34, .int .i64 39, .int .i64 14, .int .i64 18, .int .i64 41, .int .i64 1, .int .i64 8, .int .i64 7, .int .i64 19, .int .i64 61, .int .i64 6] /\ Xl W W53.heap.size (XD st)) (fun (i : Nat) (ov3 : Value) => 8 - i) 0 (.slice none 0 0) (by repeat first | exact trivial | exact And.intro rfl trivial | refine And.intro rfl ?_ | refine And.intro (congrArg (fun z : Int => some (Value.int .i64 z)) (by omega)) ?_ | refine And.intro (congrArg (fun z : Bool => some (Value.bool z)) (by first | exact (decide_eq_true (by omega)).symm | exact (decide_eq_false (by omega)).symm)) ?_) ⟨Nat.zero_le _, hB, hL, hT, hC, h5, k17, k68⟩ ?_
          clear hT hC h5 k17 k68 hB hL
          rintro K177 i ov3 W178 ⟨hi, hB, hL, hT, hC, h5, k17, k68⟩ hK177
          refine WC.seq fun K179 hK179 => ?_
          refine WC.seq fun K180 hK180 => ?_
          refine WC.region ?_
          refine WL.val (Qi rfl rfl) rfl rfl ?_
          refine WL.val (VQ rfl rfl rfl) rfl rfl ?_
          refine WL.nil ?_
          refine hK180 ?_
          refine WC.cond rfl (fun c181 => ?_) (fun c181 => ?_)
          .
            replace c181 := of_decide_eq_true c181
            refine WC.skip ?_
            refine hK179 ?_
            refine WC.seq fun K182 hK182 => ?_
            refine WC.block ?_
            refine WC.seq fun K183 hK183 => ?_
            refine WC.region ?_
            refine WL.val (Qi rfl rfl) rfl rfl ?_
            refine WL.val (Yb (r := 56) rfl rfl rfl (by decide)) rfl rfl ?_
            refine WL.val (Qv rfl rfl) rfl rfl ?_
            refine WL.nil ?_
            refine hK183 ?_
            refine WC.block ?_
            rw [<- Nat.add_zero (i * 8)] at h5
            refine WC.loop2 (fun (j : Nat) (ov4 : Value) => [(1, .int .i64 64), (10, .pointer (some ⟨W53.heap.size, 0, none⟩)), (23, .int .i64 (i : Int)), (22, ov4), (24, .int .i64 (56 - 8 * (j : Int)))]) (fun (j : Nat) (ov4 : Value) W => j <= 8 /\ Below w.heap.size w W /\ LL (W53.heap.size :: w.heap.size :: L) W /\ Yi (W53.heap.size :: w.heap.size :: L) W /\ ZS W88 (W53.heap.size :: w.heap.size :: L) W /\ V1 1 W88.heap.size (((Q3 st).take (i * 8 + j)).map e8) ov4 W /\ Xl W w.heap.size [.int .i64 28, .int .i64 34, .int .i64 39, .int .i64 14, .int .i64 18, .int .i64 41, .int .i64 1, .int .i64 8, .int .i64 7, .int .i64 19, .int .i64 61, .int .i64 6] /\ Xl W W53.heap.size (XD st)) (fun (j : Nat) (ov4 : Value) => 8 - j) 0 ov3 (by repeat first | exact trivial | exact And.intro rfl trivial | refine And.intro rfl ?_ | refine And.intro (congrArg (fun z : Int => some (Value.int .i64 z)) (by omega)) ?_ | refine And.intro (congrArg (fun z : Bool => some (Value.bool z)) (by first | exact (decide_eq_true (by omega)).symm | exact (decide_eq_false (by omega)).symm)) ?_) ⟨Nat.zero_le _, hB, hL, hT, hC, h5, k17, k68⟩ ?_
            clear hT hC h5 k17 k68 hB hL
            rintro K184 j ov4 W185 ⟨hj, hB, hL, hT, hC, h5, k17, k68⟩ hK184
            have hol3 : ((Q3 st).take (i * 8 + j)).length <= 64 := (by rw [List.length_take]; omega)
            refine WC.seq fun K186 hK186 => ?_
            refine WC.seq fun K187 hK187 => ?_
            refine WC.region ?_
            refine WL.val (Qi rfl rfl) rfl rfl ?_
            refine WL.val (Qbz rfl rfl rfl) rfl rfl ?_
            refine WL.nil ?_
            refine hK187 ?_
            refine WC.cond rfl (fun c188 => ?_) (fun c188 => ?_)
            .
              replace c188 := of_decide_eq_true c188
              refine WC.skip ?_
              refine hK186 ?_
              refine WC.seq fun K189 hK189 => ?_
              refine WC.block ?_
              refine WC.region ?_
              refine WL.val (Qi rfl rfl) rfl rfl ?_
              refine WL.val (Qi rfl rfl) rfl rfl ?_
              refine WL.val (QA (o1 := i) rfl Tryz.underlying68 Qh rfl rfl (by omega) (by first | (simp; done) | omega)) rfl rfl ?_
              refine WL.val (QN rfl Qz rfl (k68.cell (k := i) (JH (by rw [show st.length = 8 from hsl]; exact (by omega))))) rfl rfl ?_
              refine WL.val (Qi rfl rfl) rfl rfl ?_
              refine WL.val (ZW (r := (56 - 8 * (j : Int))) rfl Tryz.underlying3 Tryz.underlying75 rfl (by rw [X7]; omega)) rfl rfl ?_
              refine WL.val (Et rfl rfl rfl (by omega) (by show _ <= (64 : Int); omega) rfl) rfl rfl ?_
              refine WL.val (ZW (r := Qb (Q3 st) (i * 8 + j)) rfl Tryz.underlying47 Tryz.underlying5 rfl ((Qd0 _).trans (QaL st i j (by omega) (by omega)))) rfl rfl ?_
              refine WL.get (KY (r := e8 (Qb (Q3 st) (i * 8 + j))) rfl Zb (by decide) (by decide) rfl rfl rfl) rfl rfl ?_
              rintro x190 W191 ⟨k193, b192, z194⟩
              replace hT := hT.below b192
              replace hC := hC.below b192
              replace h5 := h5.below b192
              replace k17 := k17.below b192
              replace k68 := k68.below b192
              replace hB := Qy hB b192
              replace hL := LL.below hL b192
              have hx := k193.rd (L := []) (by simp)
              refine WL.get (Ey (base := W88.heap.size) rfl Zb rfl rfl h5 hx (DT [Qb (Q3 st) (i * 8 + j)]) (by simp [maxLen]; omega) (by simp; omega) (Below.size hC)) rfl rfl ?_
              rintro x195 W196 ⟨h5, b197⟩
              replace h5 : V1 1 W88.heap.size ((((Q3 st).take (i * 8 + j)) ++ [Qb (Q3 st) (i * 8 + j)]).map e8) x195 W196 := by rw [List.map_append]; exact h5
              replace hC : ZS W88 (W53.heap.size :: w.heap.size :: L) W196 := Below.trans hC b197
              replace hT := zhT.below hC
              replace k17 := zk17.below hC
              replace k68 := zk68.below hC
              replace hB := Qy zhB hC
              replace hL := LL.below zhL hC
              refine WL.val (Qv rfl rfl) rfl rfl ?_
              refine WL.nil ?_
              refine hK189 ?_
              refine WC.region ?_
              refine WL.val (Qi rfl rfl) rfl rfl ?_
              refine WL.val (Yb (r := (56 - 8 * ((j + 1 : Nat) : Int))) rfl rfl rfl (by rw [QX (by omega)]; omega)) rfl rfl ?_
              refine WL.val (Qv rfl rfl) rfl rfl ?_
              refine WL.nil ?_
              rw [show (((Q3 st).take (i * 8 + j)) ++ [Qb (Q3 st) (i * 8 + j)]) = ((Q3 st).take (i * 8 + (j + 1))) from by rw [<- Nat.add_assoc, Y7 _ _ (by rw [htl]; omega)]] at h5
              exact hK184 (j + 1) x195 ⟨(by omega), hB, hL, hT, hC, h5, k17, k68⟩ (by omega) (by repeat first | exact trivial | exact And.intro rfl trivial | refine And.intro rfl ?_ | refine And.intro (congrArg (fun z : Int => some (Value.int .i64 z)) (by omega)) ?_ | refine And.intro (congrArg (fun z : Bool => some (Value.bool z)) (by first | exact (decide_eq_true (by omega)).symm | exact (decide_eq_false (by omega)).symm)) ?_)
            .
              replace c188 := of_decide_eq_false c188
              refine WC.exit ?_
              refine hK182 ?_
              refine WC.region ?_
              refine WL.val (Qi rfl rfl) rfl rfl ?_
              refine WL.val (XA (r := (i : Int) + 1) rfl rfl rfl (QX (by omega))) rfl rfl ?_
              refine WL.val (Qv rfl rfl) rfl rfl ?_
              refine WL.nil ?_
              rw [show i * 8 + j = (i + 1) * 8 by omega] at h5
              exact hK177 (i + 1) ov4 ⟨(by omega), hB, hL, hT, hC, h5, k17, k68⟩ (by omega) (by repeat first | exact trivial | exact And.intro rfl trivial | refine And.intro rfl ?_ | refine And.intro (congrArg (fun z : Int => some (Value.int .i64 z)) (by omega)) ?_ | refine And.intro (congrArg (fun z : Bool => some (Value.bool z)) (by first | exact (decide_eq_true (by omega)).symm | exact (decide_eq_false (by omega)).symm)) ?_)
          .
            replace c181 := of_decide_eq_false c181
            refine WC.exit ?_
            refine hK175 ?_
            refine WC.seq fun K198 hK198 => ?_
            refine WC.region ?_
            refine WL.val (Qi rfl rfl) rfl rfl ?_
            refine WL.val (Qv rfl rfl) rfl rfl ?_
            refine WL.nil ?_
            refine hK198 ?_
            refine WC.ret fun a_ ha_ => ?_
            exact hQ (QhZ rfl (.tmp rfl) (by have e8' : i = 8 := (by omega); subst e8'; have eS : Xf D = (Q3 st).take (8 * 8) := (by rw [QaP, <- hst, List.take_of_length_le (by rw [htl]; decide)]); rw [eS]; exact h5.rd (fun y hy => zhL y (.tail _ (.tail _ hy)))) hB ha_)

/-- The program's tables, the reference's too. -/
def gR : List QJ := gS ++ [fG 2 (Xd.map (Value.int .u64)), fG 3 (Xr.map (Value.int .u64))]
theorem Qjv {L : List Nat} {w : World} (h : Hs gR L w) : Yi L w := by
  have h1 := (h.get (i := 5) rfl : (fG 2 (Xd.map (Value.int .u64))).h L w)
  have h2 := (h.get (i := 6) rfl : (fG 3 (Xr.map (Value.int .u64))).h L w)
  have hl1 : Xd.length = 8 := by decide
  have hl2 : Xr.length = 80 := by decide
  refine ⟨⟨fun k hk => ?_, fun k hk => ?_⟩, h1.1, h2.1⟩
  . have := h1.2.2 k (.int .u64 (Qb Xd k)) (by rw [List.getElem?_map]; unfold Qb; rw [List.getElem?_eq_getElem (by omega)]; rfl)
    rwa [Nat.zero_add] at this
  . have := h2.2.2 k (.int .u64 (Qb Xr k)) (by rw [List.getElem?_map]; unfold Qb; rw [List.getElem?_eq_getElem (by omega)]; rfl)
    rwa [Nat.zero_add] at this
/-- A list, as far as it has been copied. -/
def K3 (N : Nat) (s : List Int) (k : Nat) : List Int := (List.range N).map fun j => if j < k then Qb s j else 0
theorem QS (N : Nat) (s : List Int) (k : Nat) : (K3 N s k).length = N := by simp [K3]
theorem YJ (N : Nat) (s : List Int) : K3 N s 0 = List.replicate N 0 := by
  unfold K3
  refine List.ext_getElem (by simp) fun j q1 q2 => ?_
  simp only [List.getElem_map, List.getElem_range, Nat.not_lt_zero, if_false, List.getElem_replicate]
theorem VT {N : Nat} {s : List Int} (h : s.length = N) : K3 N s N = s := by
  unfold K3
  refine List.ext_getElem (by simp [h]) fun j q1 q2 => ?_
  simp only [List.getElem_map, List.getElem_range]
  rw [if_pos (by omega)]
  simp [Qb, List.getElem?_eq_getElem q2]
theorem Qal {N : Nat} {s : List Int} {k : Nat} (hk : k < N) : (K3 N s k).set (Int.toNat (k : Int)) (s.getD (Int.toNat (k : Int)) 0) = K3 N s (k + 1) := by
  rw [Int.toNat_natCast, QE]
  refine XL hk (fun j hj hne => ?_) ?_
  . by_cases h : j < k
    . rw [if_pos (by omega), if_pos h]
    . rw [if_neg (by omega), if_neg h]
  . rw [if_pos (by omega)]
set_option maxHeartbeats 1000000 in
theorem Qej {D : List Int} (hD : Qe D) (hDm : D.length <= 10000) {a0 : Option Addr} {n0 c0 : Nat} : PV Tryz.prog (gR ++ [fB (.slice a0 n0 c0) D]) 37 [.o a0 n0 c0] (.a .u8 (Xf D) 64) := by
  have hsl := XC D
  refine PV.mk' Tryz.func37 rfl rfl rfl rfl fun w L hL hG => ?_
  refine S.enter Qm [.o a0 n0 c0] (gR ++ [fB (.slice a0 n0 c0) D]) Tryz.func37 rfl rfl rfl (fun _ => rfl) hL hG ?_
  refine S.go false rfl (by repeat' (first | exact True.intro | refine And.intro ?_ ?_ | assumption | omega | (dsimp only; omega) | (simp only [Nat.add_eq, Nat.mul_eq, Nat.sub_eq, SV.wd]; omega) | exact rfl)) ?_
  refine S.call (α := Option Addr × Nat) (sv := fun x => .o x.1 64 x.2) (fs := fun x => [fB (.slice x.1 64 x.2) (Xf D)]) (pr := fun _ => True) rfl rfl rfl rfl rfl rfl Tryz.func66 rfl rfl (fun ρ w h => ?_) (fun _ => rfl) (fun x _ => ?_)
  . have hf := h.f 7 rfl
    refine CV.mono (Qa6 D _ w _ h.lt hf.1 (Qjv h.hs.pre) hDm hD) fun v W _ hr => ?_
    obtain ⟨r0, r1, a, cap, e, r3, r4, r5, r6⟩ := hr
    have hl : ((Xf D).map e8).length = 64 := by simp [hsl]
    rw [hl] at e r3
    refine ⟨(a, cap), e, ⟨⟨⟨r0, r1, a, cap, ?_, ?_, r4, r5, r6⟩, fun a' n' c' e' ha => ?_⟩, trivial⟩, trivial⟩
    . show Value.slice a 64 cap = .slice a ((Xf D).map e8).length cap
      rw [hl]
    . show ((Xf D).map e8).length <= cap
      rw [hl]; exact r3
    . cases e'
      exact r5 ha
  . refine S.go false rfl (by repeat' (first | exact True.intro | refine And.intro ?_ ?_ | assumption | omega | (dsimp only; omega) | (simp only [Nat.add_eq, Nat.mul_eq, Nat.sub_eq, SV.wd]; omega) | exact rfl)) ?_
    refine S.slc 4 [.a .u8 (Xf D) 64] rfl (fun ρ w h => (h.f 8 rfl).1) (by rw [YF]; simp [Qk, SV.cs]) (by simp [ZD, SV.wd]) ?_ ⟨hsl, trivial⟩
    generalize Xf D = s at *
    refine S.recell 1 [.a .u8 (K3 64 s 0) 64] rfl (fun ρ => by rw [YJ]) ⟨QS 64 s 0, trivial⟩ rfl ?_
    refine S.loop [2, 3, 4] (fun k : Nat => [(5, .i .i64 (k : Int))]) (fun k => [(0, [.a .u8 (List.replicate 64 0) 64]), (1, [.a .u8 (K3 64 s k) 64])]) (fun _ => []) (fun k => k <= 64) (fun k => 64 - k) 0 rfl (fun _ => rfl) (fun _ => rfl) rfl ⟨⟨rfl, rfl⟩, trivial⟩ (by repeat' (first | exact True.intro | refine And.intro ?_ ?_ | exact QS 64 s 0 | exact rfl)) (fun _ _ _ => trivial) (by omega) fun J k hk again => ?_
    have hk' : k <= 64 := hk
    have hlen := QS 64 s k
    have hlen' := QS 64 s (k + 1)
    refine S.g false rfl ?_
    refine S.cond rfl (fun c5 => ?_) (fun c5 => ?_)
    . have c' : k < 64 := by omega
      refine S.go false rfl (by repeat' (first | exact True.intro | refine And.intro ?_ ?_ | exact hlen | exact hsl | omega | (dsimp only; omega) | (simp only [List.length_set]; exact hlen) | exact rfl)) ?_
      refine S.again (again (k + 1) (show k + 1 <= 64 by omega) (show 64 - (k + 1) < 64 - k by omega)) ⟨⟨rfl, by omega⟩, rfl, rfl, rfl, trivial⟩ ?_ rfl rfl (fun x hx => hx) rfl (fun ρ W h => h.hs)
      repeat' (first | exact True.intro | refine And.intro ?_ ?_ | exact congrArg (fun z => SV.a .u8 z 64) (Qal c') | exact hlen' | exact rfl)
    . obtain rfl : k = 64 := by omega
      rw [VT hsl] at hlen ⊢
      refine S.go false rfl (by repeat' (first | exact True.intro | refine And.intro ?_ ?_ | exact hsl | exact rfl)) ?_
      exact S.retv rfl rfl rfl rfl rfl
theorem Qek {D : List Int} (hD : Qe D) (hDm : D.length <= 10000) (k len cap : Nat) (hl : D.length = len) (hc : len <= cap) (hcm : cap <= maxLen) : PR Tryz.prog gR 37 [.y k 0 len cap] [(k, [.a .u8 (D ++ List.replicate (cap - len) 0) cap])] (.a .u8 (Xf D) 64) := PR.mk' Tryz.func37 rfl rfl rfl fun ρ w hG hm => by
  obtain ⟨b1, -⟩ := hm _ (.head _)
  simp only [Qk, SV.cs, SV.den, List.append_nil] at b1
  have ho : EZ 1 w (.slice (some ⟨ρ.b k, 0, none⟩) len cap) (D.map fun z => [Value.int .u8 z]) (ρ.b k) := ⟨Nat.zero_lt_one, fun r hr => by simp only [List.mem_map] at hr; obtain ⟨x, _, rfl⟩ := hr; rfl, cap, (List.replicate (cap - len) 0).map (Value.int .u8), by simp [hl], by simpa [hl] using hc, hcm, by simp [hl], by rw [YF, <- List.map_append]; exact b1⟩
  have hf : (fB (.slice (some ⟨ρ.b k, 0, none⟩) len cap) D).h [] w := ⟨ho.rd (by simp), fun a n c e ha => by cases e; cases ha⟩
  have h := (Qej hD hDm (a0 := some ⟨ρ.b k, 0, none⟩) (n0 := len) (c0 := cap)).h w [] (LL.none w) (hG.app ⟨hf, trivial⟩)
  simp only [QI, SV.den] at h ⊢
  exact h
theorem Qa7 {ρ : QL} {m : SM} {L0 : List Nat} {k : Nat} {c : Cl} (h : X5 m k = some c) : ∀ x ∈ [ρ.b k], x ∈ own ρ m L0 := fun x hx => by
  simp only [List.mem_singleton] at hx
  subst hx
  exact List.mem_append_left _ (List.mem_map_of_mem (f := fun x : Nat × Cl => ρ.b x.1) (X4 h))
set_option maxHeartbeats 1000000 in
theorem QgJ {A B C : List Int} (hA : Qe A) (hB : Qe B) (hC : Qe C) (hlen : A.length + B.length + C.length <= 10000) {a1 a2 a3 : Option Addr} {n1 n2 n3 c1 c2 c3 : Nat} : PV Tryz.prog (gR ++ [fB (.slice a1 n1 c1) A, fB (.slice a2 n2 c2) B, fB (.slice a3 n3 c3) C]) 22 [.o a1 n1 c1, .o a2 n2 c2, .o a3 n3 c3] (.a .u8 (Q2 (Qp (Xf (A ++ B ++ C)) 64 % QH)) 32) := by
  have hD : Qe (A ++ B ++ C) := fun x hx => by
    rcases List.mem_append.1 hx with h | h
    . rcases List.mem_append.1 h with h | h
      . exact hA x h
      . exact hB x h
    . exact hC x h
  have hR := (QeF (Z4 (A ++ B ++ C)) (XC (A ++ B ++ C))).up (G' := gR ++ [fB (.slice a1 n1 c1) A, fB (.slice a2 n2 c2) B, fB (.slice a3 n3 c3) C]) (fun L w h => Qbr L w h.pre.pre)
  have hS := fun k cap h1 h2 => Qek hD (by simp; omega) k (0 + A.length + B.length + C.length) cap (by simp; omega) h1 h2
  have hsl := XC (A ++ B ++ C)
  have hol := QM (Qp (Xf (A ++ B ++ C)) 64 % QH)
  refine PV.mk' Tryz.func22 rfl rfl rfl rfl fun w L hL hG => ?_
  refine S.enter Qm [.o a1 n1 c1, .o a2 n2 c2, .o a3 n3 c3] (gR ++ [fB (.slice a1 n1 c1) A, fB (.slice a2 n2 c2) B, fB (.slice a3 n3 c3) C]) Tryz.func22 rfl rfl rfl (fun _ => rfl) hL hG ?_
  refine S.g false rfl ?_
  refine S.emp .u8 rfl rfl rfl rfl rfl rfl ?_
  refine S.g false rfl ?_
  refine S.app (bytes := 1) [] A rfl rfl rfl rfl (by kernel_rfl) rfl rfl rfl rfl rfl rfl rfl (Nat.le_refl _) (Nat.zero_le _) (fun ρ w h => Gw (h.f 7 rfl).1 (Qa7 (c := [.a .u8 [] 0]) rfl)) (by unfold maxLen; omega) (by omega) (fun cap1 p1 p2 => ?_)
  refine S.g false rfl ?_
  refine S.app (bytes := 1) ([] ++ A) B rfl rfl rfl rfl (by kernel_rfl) rfl rfl rfl rfl rfl rfl (by simp) p1 p2 (fun ρ w h => Gw (h.f 8 rfl).1 (Qa7 (c := [.a .u8 (([] ++ A) ++ List.replicate (cap1 - (0 + A.length)) 0) cap1]) rfl)) (by unfold maxLen; omega) (by omega) (fun cap2 p3 p4 => ?_)
  refine S.g false rfl ?_
  refine S.app (bytes := 1) ([] ++ A ++ B) C rfl rfl rfl rfl (by kernel_rfl) rfl rfl rfl rfl rfl rfl (by simp) p3 p4 (fun ρ w h => Gw (h.f 9 rfl).1 (Qa7 (c := [.a .u8 (([] ++ A ++ B) ++ List.replicate (cap2 - (0 + A.length + B.length)) 0) cap2]) rfl)) (by unfold maxLen; omega) (by omega) (fun cap3 p5 p6 => ?_)
  refine S.g false rfl ?_
  have hS4 := hS 4 cap3 p5 p6
  refine S.cr [4] rfl rfl rfl rfl rfl rfl rfl hS4 ?_
  refine S.go false rfl (by repeat' (first | exact True.intro | refine And.intro ?_ ?_ | assumption | omega | (dsimp only; omega) | (simp only [Nat.add_eq, Nat.mul_eq, Nat.sub_eq, SV.wd]; omega) | exact rfl)) ?_
  refine S.cv rfl rfl rfl rfl rfl rfl hR ?_
  refine S.go false rfl (by repeat' (first | exact True.intro | refine And.intro ?_ ?_ | assumption | omega | (dsimp only; omega) | (simp only [Nat.add_eq, Nat.mul_eq, Nat.sub_eq, SV.wd]; omega) | exact rfl)) ?_
  exact S.retv rfl rfl rfl rfl rfl
theorem QgK {A B C : List Int} (hA : Qe A) (hal : A.length = 32) (hB : Qe B) (hbl : B.length = 32) (hC : Qe C) (hlen : C.length <= 9000) {a3 : Option Addr} {n3 c3 : Nat} (k1 k2 : Nat) : PR Tryz.prog (gR ++ [fB (.slice a3 n3 c3) C]) 22 [.y k1 0 32 32, .y k2 0 32 32, .o a3 n3 c3] [(k1, [.a .u8 A 32]), (k2, [.a .u8 B 32])] (.a .u8 (Q2 (Qp (Xf (A ++ (B ++ C))) 64 % QH)) 32) := PR.mk' Tryz.func22 rfl rfl rfl fun ρ w hG hm => by
  have row : ∀ (k : Nat) (Z : List Int), Z.length = 32 -> Xl w (ρ.b k) (Z.map (Value.int .u8)) -> (fB (.slice (some ⟨ρ.b k, 0, none⟩) 32 32) Z).h [] w := fun k Z hl hb => by
    have hr := Xl.rows (s := 1) (rows := Z.map fun z => [Value.int .u8 z]) (by rw [YF]; exact hb) (by omega) (fun r hr => by simp only [List.mem_map] at hr; obtain ⟨x, _, rfl⟩ := hr; rfl) (by simp [hl, maxLen])
    rw [List.length_map, hl] at hr
    exact ⟨hr, fun a n c e ha => by cases e; cases ha⟩
  obtain ⟨b1, -⟩ := hm _ (.head _)
  obtain ⟨b2, -⟩ := hm _ (.tail _ (.head _))
  simp only [Qk, SV.cs, SV.den, List.append_nil] at b1 b2
  have h3 := (hG.get (i := 7) rfl : (fB (.slice a3 n3 c3) C).h [] w)
  have h := (QgJ hA hB hC (by omega) (a1 := some ⟨ρ.b k1, 0, none⟩) (n1 := 32) (c1 := 32) (a2 := some ⟨ρ.b k2, 0, none⟩) (n2 := 32) (c2 := 32) (a3 := a3) (n3 := n3) (c3 := c3)).h w [] (LL.none w) (hG.pre.app ⟨row k1 A hal b1, row k2 B hbl b2, h3, trivial⟩)
  simp only [QI, SV.den] at h ⊢
  rw [<- List.append_assoc]
  exact h
theorem KO : Tryz.prog.underlying 49 = some (.array 5 47) := by kernel_rfl
theorem U6 {W : World} {name : String} {zs : List Int} {g : Nat} (h : Go.Lib.TabIs Tryz.prog W name .u64 zs) (hg : Tryz.prog.globalNamed name = some g) (h0 : 0 < zs.length) : (fG g (zs.map (Value.int .u64))).h [] W := by
  refine ⟨fun h => (by cases h), World.block_lt_of_cell? W _ (h.cell hg 0 h0), fun j v hv => ?_⟩
  rw [List.getElem?_map] at hv
  by_cases hj : j < zs.length
  . rw [List.getElem?_eq_getElem hj] at hv
    have e := Option.some.inj hv
    have := h.cell hg j hj
    rw [Nat.zero_add, this, <- e]
    simp [List.getD, hj]
  . rw [List.getElem?_eq_none (by omega)] at hv
    cases hv
theorem Qgi {W : World} {rest : List (String × DataW Unit)} (h : laidMet Tryz.prog (("vouchsafe/curve.base", Rows.laid_vouchsafe_curve_base) :: rest) W) : Go.Lib.TabIs Tryz.prog W "vouchsafe/curve.base" .u64 JK := by
  obtain ⟨ps, ⟨g', t', cs, fuel, p, q, hg', ht', hvar, hd, _, _⟩, _⟩ := h
  have hg : Tryz.prog.globalNamed "vouchsafe/curve.base" = some 0 := by kernel_rfl
  obtain rfl := Option.some.inj (hg.symm.trans hg')
  have ht : (Tryz.prog.globals[0]?).map (·.type) = some 51 := by kernel_rfl
  obtain rfl := Option.some.inj (ht.symm.trans ht')
  obtain ⟨y0, y1, n, hx, hl, h0, h1⟩ := Go.ChangeShapes.trod_struct2 Tryz.underlying51 hd
  have e0 : y0.1 = Go.Lib.tabData .u64 (JK.take 5) := by
    have := congrArg Prod.fst hx
    simp only [Rows.laid_vouchsafe_curve_base, DataW.agg.injEq, List.cons.injEq] at this
    exact this.1.symm
  have e1 : y1.1 = Go.Lib.tabData .u64 (JK.drop 5) := by
    have := congrArg Prod.fst hx
    simp only [Rows.laid_vouchsafe_curve_base, DataW.agg.injEq, List.cons.injEq] at this
    exact this.2.1.symm
  have c0 := Go.Lib.cells_of_tab (zs := JK.take 5) (k := .u64) KO Tryz.underlying47 (by kernel_rfl) (by kernel_rfl) (h0.trans (by rw [<- e0]))
  have c1 := Go.Lib.cells_of_tab (zs := JK.drop 5) (k := .u64) KO Tryz.underlying47 (by kernel_rfl) (by kernel_rfl) (h1.trans (by rw [<- e1]))
  have hc : Tryz.prog.cellsOf 51 = 10 := by kernel_rfl
  have hc5 : Tryz.prog.cellsOf 49 = 5 := by kernel_rfl
  rw [hc] at hl
  simp only [hc5, List.drop_zero] at c0 c1
  have e : cs.toList = JK.map fun z => Value.int .u64 z := by
    rw [<- List.take_append_drop 5 cs.toList, c0]
    rw [List.take_of_length_le (by simp at hl ⊢; omega)] at c1
    rw [c1]
    rfl
  unfold Go.Lib.TabIs
  rw [hvar, <- e]
theorem Qbq {W : World} (hL : laidMet Tryz.prog [("vouchsafe/field.rootOfMinusOne", Rows.laid_vouchsafe_field_rootOfMinusOne), ("vouchsafe/curve.d", Rows.laid_vouchsafe_curve_d), ("vouchsafe/curve.base", Rows.laid_vouchsafe_curve_base), ("vouchsafe/sha.cubes", Rows.laid_vouchsafe_sha_cubes), ("vouchsafe/sha.squares", Rows.laid_vouchsafe_sha_squares), ("vouchsafe/vouchsaferef07.roots", Rows.laid_vouchsafe_vouchsaferef07_roots), ("vouchsafe/vouchsaferef07.begins", Rows.laid_vouchsafe_vouchsaferef07_begins)] W) : Hs gR [] W := by
  have h1 : Go.Lib.TabIs Tryz.prog W "vouchsafe/field.rootOfMinusOne" .u64 rmL :=
    Go.Lib.tabIs_of_head (g := 6) (t := 49) (e := 47) (n := 5) (by kernel_rfl) (by kernel_rfl) KO (by kernel_rfl) (by kernel_rfl) (by kernel_rfl) hL
  have t1 := laidMet.tail hL
  have h2 : Go.Lib.TabIs Tryz.prog W "vouchsafe/curve.d" .u64 dL :=
    Go.Lib.tabIs_of_head (g := 4) (t := 49) (e := 47) (n := 5) (by kernel_rfl) (by kernel_rfl) KO (by kernel_rfl) (by kernel_rfl) (by kernel_rfl) t1
  have t2 := laidMet.tail t1
  have h3 := Qgi t2
  have t3 := laidMet.tail t2
  have h4 : Go.Lib.TabIs Tryz.prog W "vouchsafe/sha.cubes" .u64 Xr :=
    Go.Lib.tabIs_of_head (g := 5) (t := 125) (e := 47) (n := 80) (by kernel_rfl) (by kernel_rfl) Tryz.underlying125 Tryz.underlying47 (by kernel_rfl) (by kernel_rfl) t3
  have t4 := laidMet.tail t3
  have h5 : Go.Lib.TabIs Tryz.prog W "vouchsafe/sha.squares" .u64 Xd :=
    Go.Lib.tabIs_of_head (g := 1) (t := 68) (e := 47) (n := 8) (by kernel_rfl) (by kernel_rfl) Tryz.underlying68 Tryz.underlying47 (by kernel_rfl) (by kernel_rfl) t4
  have t5 := laidMet.tail t4
  have h6 : Go.Lib.TabIs Tryz.prog W "vouchsafe/vouchsaferef07.roots" .u64 Xr :=
    Go.Lib.tabIs_of_head (g := 3) (t := 125) (e := 47) (n := 80) (by kernel_rfl) (by kernel_rfl) Tryz.underlying125 Tryz.underlying47 (by kernel_rfl) (by kernel_rfl) t5
  have t6 := laidMet.tail t5
  have h7 : Go.Lib.TabIs Tryz.prog W "vouchsafe/vouchsaferef07.begins" .u64 Xd :=
    Go.Lib.tabIs_of_head (g := 2) (t := 68) (e := 47) (n := 8) (by kernel_rfl) (by kernel_rfl) Tryz.underlying68 Tryz.underlying47 (by kernel_rfl) (by kernel_rfl) t6
  have g6 := U6 (g := 3) h6 (by kernel_rfl) (by decide)
  have g7 := U6 (g := 2) h7 (by kernel_rfl) (by decide)
  have g1 := U6 (g := 6) h1 (by kernel_rfl) (by decide)
  have g2 := U6 (g := 4) h2 (by kernel_rfl) (by decide)
  have g3 := U6 (g := 0) h3 (by kernel_rfl) (by decide)
  have g4 := U6 (g := 5) h4 (by kernel_rfl) (by decide)
  have g5 := U6 (g := 1) h5 (by kernel_rfl) (by decide)
  exact ⟨g1, g2, g3, g5, g4, g7, g6, trivial⟩
theorem Dk {W : World} (hL : laidMetH Tryz.prog Rows.edsigVerifiesRow.laid W) : Hs gR [] W := by
  rw [MakeChecks.laidMetH_plain _ _ _ (by kernel_rfl)] at hL
  exact Qbq hL
/-- A slice of bytes that came in. -/
theorem QkM {W : World} {v : Value} {zs : List Int} (h : JS .u8 W v zs) : ∃ a c, v = .slice a zs.length c /\ (fB v zs).h [] W := by
  obtain ⟨a, c, rfl, h1, h2, h3, h4⟩ := h
  refine ⟨a, c, rfl, ⟨Nat.zero_lt_one, fun r hr => by simp only [List.mem_map] at hr; obtain ⟨x, _, rfl⟩ := hr; rfl, a, c, by rw [List.length_map], by rw [List.length_map]; exact h1, h2, h4, fun hne => ?_⟩, fun a' n' c' e he => by cases e; exact h4 he⟩
  have hl : 0 < zs.length := by
    cases zs with
    | nil => exact absurd rfl hne
    | cons _ _ => exact Nat.succ_pos _
  obtain ⟨x, o, rfl, _⟩ := h3 0 hl
  refine ⟨x, o, rfl, fun h => (by cases h), fun j u hu => ?_⟩
  have hf := YF zs
  rw [hf, List.getElem?_map] at hu
  by_cases hj : j < zs.length
  . obtain ⟨x', o', e, hc⟩ := h3 j hj
    cases e
    rw [hc, <- hu, List.getElem?_eq_getElem hj]
    simp [Qb, hj]
  . rw [List.getElem?_eq_none (by omega)] at hu
    cases hu
theorem Yr {N : Nat} {s : List Int} {k : Nat} (hk : k < N) {v : Int} (hv : v = Qb s k) : (K3 N s k).set (Int.toNat (k : Int)) v = K3 N s (k + 1) := by
  have h := Qal (s := s) hk
  rwa [QE, Int.toNat_natCast, <- hv, <- Int.toNat_natCast k] at h
section
variable {a0 : Option Addr} {n0 c0 : Nat} {m : List Int} (hm : Qe m) (hml : m.length <= 9000)
include hm hml
set_option maxHeartbeats 2000000 in
theorem Qde {key sig r s : List Int} (hkl : key.length = 32) (hgl : sig.length = 64) (hrl : r.length = 32) (hsl : s.length = 32) (hrk : ∀ k : Nat, k < 32 -> sig.getD (Int.toNat (k : Int)) 0 = Qb r k) (hsk : ∀ k : Nat, k < 32 -> sig.getD (Int.toNat (32 + (k : Int))) 0 = Qb s k) (hk : Qe key) (hr : Qe r) :
    (∀ z : List Int, z.length = 32 -> PV Tryz.prog (gR ++ [fB (.slice a0 n0 c0) m]) 29 [.a .u8 key 32] (.t [.a .u8 z 32, .i .i64 1]) -> PV Tryz.prog (gR ++ [fB (.slice a0 n0 c0) m]) 13 [.a .u8 key 32, .o a0 n0 c0, .a .u8 sig 64] (.l false)) /\
    (∀ mi : List Int, mi.length = 32 -> PV Tryz.prog (gR ++ [fB (.slice a0 n0 c0) m]) 29 [.a .u8 key 32] (.t [.a .u8 mi 32, .i .i64 0]) -> PV Tryz.prog (gR ++ [fB (.slice a0 n0 c0) m]) 30 [.a .u8 s 32] (.l false) -> PV Tryz.prog (gR ++ [fB (.slice a0 n0 c0) m]) 13 [.a .u8 key 32, .o a0 n0 c0, .a .u8 sig 64] (.l false)) /\
    (∀ mi E : List Int, mi.length = 32 -> E.length = 32 -> PV Tryz.prog (gR ++ [fB (.slice a0 n0 c0) m]) 29 [.a .u8 key 32] (.t [.a .u8 mi 32, .i .i64 0]) -> PV Tryz.prog (gR ++ [fB (.slice a0 n0 c0) m]) 30 [.a .u8 s 32] (.l true) -> PV Tryz.prog (gR ++ [fB (.slice a0 n0 c0) m]) 31 [.a .u8 (EY r key m) 32, .a .u8 mi 32, .a .u8 s 32] (.t [.a .u8 E 32, .i .i64 0]) -> PV Tryz.prog (gR ++ [fB (.slice a0 n0 c0) m]) 13 [.a .u8 key 32, .o a0 n0 c0, .a .u8 sig 64] (.c (E = r) inferInstance)) := by
  refine ⟨fun z hz hN => ?_, fun mi hmi hN hR => ?_, fun mi E hmi hE hN hR hM => ?_⟩
  . refine PV.mk' Tryz.func13 rfl rfl rfl rfl fun w L hL hG => ?_
    refine S.enter Qm [.a .u8 key 32, .o a0 n0 c0, .a .u8 sig 64] (gR ++ [fB (.slice a0 n0 c0) m]) Tryz.func13 rfl rfl rfl (fun _ => rfl) hL hG ?_
    refine S.go false rfl (by repeat' (first | exact True.intro | refine And.intro ?_ ?_ | assumption | omega | (dsimp only; omega) | (simp only [Nat.add_eq, Nat.mul_eq, Nat.sub_eq, SV.wd]; omega) | exact rfl)) ?_
    refine S.recell 2 [.a .u8 (K3 32 r 0) 32] rfl (fun ρ => by rw [YJ]) ⟨QS 32 r 0, trivial⟩ rfl ?_
    refine S.recell 3 [.a .u8 (K3 32 s 0) 32] rfl (fun ρ => by rw [YJ]) ⟨QS 32 s 0, trivial⟩ rfl ?_
    refine S.loop [1, 3, 5, 6, 7, 8] (fun k : Nat => [(9, .i .i64 (k : Int))]) (fun k => [(0, [.a .u8 key 32]), (1, [.a .u8 sig 64]), (2, [.a .u8 (K3 32 r k) 32]), (3, [.a .u8 (K3 32 s k) 32])]) (fun _ => []) (fun k => k <= 32) (fun k => 32 - k) 0 rfl (fun _ => rfl) (fun _ => rfl) rfl ⟨⟨rfl, rfl⟩, trivial⟩ (by repeat' (first | exact True.intro | refine And.intro ?_ ?_ | exact QS 32 r 0 | exact QS 32 s 0 | exact hkl | exact hgl | exact rfl)) (fun _ _ _ => trivial) (by omega) fun J k hk again => ?_
    have hk' : k <= 32 := hk
    have hlr := QS 32 r k; have hlr' := QS 32 r (k + 1)
    have hls := QS 32 s k; have hls' := QS 32 s (k + 1)
    refine S.g false rfl ?_
    refine S.cond rfl (fun c5 => ?_) (fun c5 => ?_)
    . have c' : k < 32 := by omega
      refine S.g false rfl ?_
      refine S.dr0 false rfl rfl rfl ?_ (by repeat' (first | exact True.intro | refine And.intro ?_ ?_ | exact hlr | exact hls | exact hgl | omega | (dsimp only; omega) | (simp only [List.length_set]; exact hlr) | (simp only [List.length_set]; exact hls) | exact rfl))
      refine S.g false rfl ?_
      refine S.again (again (k + 1) (show k + 1 <= 32 by omega) (show 32 - (k + 1) < 32 - k by omega)) ⟨⟨rfl, by omega⟩, rfl, rfl, rfl, rfl, rfl, rfl, trivial⟩ ?_ rfl rfl (fun x hx => hx) rfl (fun ρ W h => h.hs)
      repeat' (first | exact True.intro | refine And.intro ?_ ?_ | exact congrArg (fun z => SV.a .u8 z 32) (Yr c' (hrk k c')) | exact congrArg (fun z => SV.a .u8 z 32) (Yr c' (hsk k c')) | exact hlr' | exact hls' | exact hkl | exact hgl | exact rfl)
    obtain rfl : k = 32 := by omega
    rw [VT hrl] at hlr ⊢
    rw [VT hsl] at hls ⊢
    refine S.go false rfl (by repeat' (first | exact True.intro | refine And.intro ?_ ?_ | assumption | omega | (dsimp only; omega) | (simp only [Nat.add_eq, Nat.mul_eq, Nat.sub_eq, SV.wd]; omega) | exact rfl)) ?_
    refine S.cv rfl rfl rfl rfl rfl rfl hN ?_
    refine S.go false rfl (by repeat' (first | exact True.intro | refine And.intro ?_ ?_ | assumption | omega | (dsimp only; omega) | (simp only [Nat.add_eq, Nat.mul_eq, Nat.sub_eq, SV.wd]; omega) | exact rfl)) ?_
    refine S.rd 35 (.l true) rfl (fun _ => by show Value.bool (decide _) = Value.bool _; rfl) ?_
    refine S.go false rfl (by repeat' (first | exact True.intro | refine And.intro ?_ ?_ | assumption | omega | (dsimp only; omega) | (simp only [Nat.add_eq, Nat.mul_eq, Nat.sub_eq, SV.wd]; omega) | exact rfl)) ?_
    exact S.retv rfl rfl rfl rfl rfl
  . refine PV.mk' Tryz.func13 rfl rfl rfl rfl fun w L hL hG => ?_
    refine S.enter Qm [.a .u8 key 32, .o a0 n0 c0, .a .u8 sig 64] (gR ++ [fB (.slice a0 n0 c0) m]) Tryz.func13 rfl rfl rfl (fun _ => rfl) hL hG ?_
    refine S.go false rfl (by repeat' (first | exact True.intro | refine And.intro ?_ ?_ | assumption | omega | (dsimp only; omega) | (simp only [Nat.add_eq, Nat.mul_eq, Nat.sub_eq, SV.wd]; omega) | exact rfl)) ?_
    refine S.recell 2 [.a .u8 (K3 32 r 0) 32] rfl (fun ρ => by rw [YJ]) ⟨QS 32 r 0, trivial⟩ rfl ?_
    refine S.recell 3 [.a .u8 (K3 32 s 0) 32] rfl (fun ρ => by rw [YJ]) ⟨QS 32 s 0, trivial⟩ rfl ?_
    refine S.loop [1, 3, 5, 6, 7, 8] (fun k : Nat => [(9, .i .i64 (k : Int))]) (fun k => [(0, [.a .u8 key 32]), (1, [.a .u8 sig 64]), (2, [.a .u8 (K3 32 r k) 32]), (3, [.a .u8 (K3 32 s k) 32])]) (fun _ => []) (fun k => k <= 32) (fun k => 32 - k) 0 rfl (fun _ => rfl) (fun _ => rfl) rfl ⟨⟨rfl, rfl⟩, trivial⟩ (by repeat' (first | exact True.intro | refine And.intro ?_ ?_ | exact QS 32 r 0 | exact QS 32 s 0 | exact hkl | exact hgl | exact rfl)) (fun _ _ _ => trivial) (by omega) fun J k hk again => ?_
    have hk' : k <= 32 := hk
    have hlr := QS 32 r k; have hlr' := QS 32 r (k + 1)
    have hls := QS 32 s k; have hls' := QS 32 s (k + 1)
    refine S.g false rfl ?_
    refine S.cond rfl (fun c5 => ?_) (fun c5 => ?_)
    . have c' : k < 32 := by omega
      refine S.g false rfl ?_
      refine S.dr0 false rfl rfl rfl ?_ (by repeat' (first | exact True.intro | refine And.intro ?_ ?_ | exact hlr | exact hls | exact hgl | omega | (dsimp only; omega) | (simp only [List.length_set]; exact hlr) | (simp only [List.length_set]; exact hls) | exact rfl))
      refine S.g false rfl ?_
      refine S.again (again (k + 1) (show k + 1 <= 32 by omega) (show 32 - (k + 1) < 32 - k by omega)) ⟨⟨rfl, by omega⟩, rfl, rfl, rfl, rfl, rfl, rfl, trivial⟩ ?_ rfl rfl (fun x hx => hx) rfl (fun ρ W h => h.hs)
      repeat' (first | exact True.intro | refine And.intro ?_ ?_ | exact congrArg (fun z => SV.a .u8 z 32) (Yr c' (hrk k c')) | exact congrArg (fun z => SV.a .u8 z 32) (Yr c' (hsk k c')) | exact hlr' | exact hls' | exact hkl | exact hgl | exact rfl)
    obtain rfl : k = 32 := by omega
    rw [VT hrl] at hlr ⊢
    rw [VT hsl] at hls ⊢
    refine S.go false rfl (by repeat' (first | exact True.intro | refine And.intro ?_ ?_ | assumption | omega | (dsimp only; omega) | (simp only [Nat.add_eq, Nat.mul_eq, Nat.sub_eq, SV.wd]; omega) | exact rfl)) ?_
    refine S.cv rfl rfl rfl rfl rfl rfl hN ?_
    refine S.go false rfl (by repeat' (first | exact True.intro | refine And.intro ?_ ?_ | assumption | omega | (dsimp only; omega) | (simp only [Nat.add_eq, Nat.mul_eq, Nat.sub_eq, SV.wd]; omega) | exact rfl)) ?_
    refine S.rd 35 (.l false) rfl (fun _ => by show Value.bool (decide _) = Value.bool _; rfl) ?_
    refine S.go false rfl (by repeat' (first | exact True.intro | refine And.intro ?_ ?_ | assumption | omega | (dsimp only; omega) | (simp only [Nat.add_eq, Nat.mul_eq, Nat.sub_eq, SV.wd]; omega) | exact rfl)) ?_
    refine S.cv rfl rfl rfl rfl rfl rfl hR ?_
    refine S.go false rfl (by repeat' (first | exact True.intro | refine And.intro ?_ ?_ | assumption | omega | (dsimp only; omega) | (simp only [Nat.add_eq, Nat.mul_eq, Nat.sub_eq, SV.wd]; omega) | exact rfl)) ?_
    exact S.retv rfl rfl rfl rfl rfl
  . have hS := fun k1 k2 => QgK (a3 := a0) (n3 := n0) (c3 := c0) hr hrl hk hkl hm hml k1 k2
    have hcl := VU r key m
    unfold EY at hM hcl
    generalize Q2 (Qp (Xf (r ++ (key ++ m))) 64 % QH) = ch at *
    refine PV.mk' Tryz.func13 rfl rfl rfl rfl fun w L hL hG => ?_
    refine S.enter Qm [.a .u8 key 32, .o a0 n0 c0, .a .u8 sig 64] (gR ++ [fB (.slice a0 n0 c0) m]) Tryz.func13 rfl rfl rfl (fun _ => rfl) hL hG ?_
    refine S.go false rfl (by repeat' (first | exact True.intro | refine And.intro ?_ ?_ | assumption | omega | (dsimp only; omega) | (simp only [Nat.add_eq, Nat.mul_eq, Nat.sub_eq, SV.wd]; omega) | exact rfl)) ?_
    refine S.recell 2 [.a .u8 (K3 32 r 0) 32] rfl (fun ρ => by rw [YJ]) ⟨QS 32 r 0, trivial⟩ rfl ?_
    refine S.recell 3 [.a .u8 (K3 32 s 0) 32] rfl (fun ρ => by rw [YJ]) ⟨QS 32 s 0, trivial⟩ rfl ?_
    refine S.loop [1, 3, 5, 6, 7, 8] (fun k : Nat => [(9, .i .i64 (k : Int))]) (fun k => [(0, [.a .u8 key 32]), (1, [.a .u8 sig 64]), (2, [.a .u8 (K3 32 r k) 32]), (3, [.a .u8 (K3 32 s k) 32])]) (fun _ => []) (fun k => k <= 32) (fun k => 32 - k) 0 rfl (fun _ => rfl) (fun _ => rfl) rfl ⟨⟨rfl, rfl⟩, trivial⟩ (by repeat' (first | exact True.intro | refine And.intro ?_ ?_ | exact QS 32 r 0 | exact QS 32 s 0 | exact hkl | exact hgl | exact rfl)) (fun _ _ _ => trivial) (by omega) fun J k hk again => ?_
    have hk' : k <= 32 := hk
    have hlr := QS 32 r k; have hlr' := QS 32 r (k + 1)
    have hls := QS 32 s k; have hls' := QS 32 s (k + 1)
    refine S.g false rfl ?_
    refine S.cond rfl (fun c5 => ?_) (fun c5 => ?_)
    . have c' : k < 32 := by omega
      refine S.g false rfl ?_
      refine S.dr0 false rfl rfl rfl ?_ (by repeat' (first | exact True.intro | refine And.intro ?_ ?_ | exact hlr | exact hls | exact hgl | omega | (dsimp only; omega) | (simp only [List.length_set]; exact hlr) | (simp only [List.length_set]; exact hls) | exact rfl))
      refine S.g false rfl ?_
      refine S.again (again (k + 1) (show k + 1 <= 32 by omega) (show 32 - (k + 1) < 32 - k by omega)) ⟨⟨rfl, by omega⟩, rfl, rfl, rfl, rfl, rfl, rfl, trivial⟩ ?_ rfl rfl (fun x hx => hx) rfl (fun ρ W h => h.hs)
      repeat' (first | exact True.intro | refine And.intro ?_ ?_ | exact congrArg (fun z => SV.a .u8 z 32) (Yr c' (hrk k c')) | exact congrArg (fun z => SV.a .u8 z 32) (Yr c' (hsk k c')) | exact hlr' | exact hls' | exact hkl | exact hgl | exact rfl)
    obtain rfl : k = 32 := by omega
    rw [VT hrl] at hlr ⊢
    rw [VT hsl] at hls ⊢
    have hS' := hS 2 0
    refine S.go false rfl (by repeat' (first | exact True.intro | refine And.intro ?_ ?_ | assumption | omega | (dsimp only; omega) | (simp only [Nat.add_eq, Nat.mul_eq, Nat.sub_eq, SV.wd]; omega) | exact rfl)) ?_
    refine S.cv rfl rfl rfl rfl rfl rfl hN ?_
    refine S.go false rfl (by repeat' (first | exact True.intro | refine And.intro ?_ ?_ | assumption | omega | (dsimp only; omega) | (simp only [Nat.add_eq, Nat.mul_eq, Nat.sub_eq, SV.wd]; omega) | exact rfl)) ?_
    refine S.rd 35 (.l false) rfl (fun _ => by show Value.bool (decide _) = Value.bool _; rfl) ?_
    refine S.go false rfl (by repeat' (first | exact True.intro | refine And.intro ?_ ?_ | assumption | omega | (dsimp only; omega) | (simp only [Nat.add_eq, Nat.mul_eq, Nat.sub_eq, SV.wd]; omega) | exact rfl)) ?_
    refine S.cv rfl rfl rfl rfl rfl rfl hR ?_
    refine S.go false rfl (by repeat' (first | exact True.intro | refine And.intro ?_ ?_ | assumption | omega | (dsimp only; omega) | (simp only [Nat.add_eq, Nat.mul_eq, Nat.sub_eq, SV.wd]; omega) | exact rfl)) ?_
    refine S.drq false [(3, .a .u8 ch 32), (6, .t [.a .u8 E 32, .i .i64 0])] [(3, [2, 0])] rfl rfl rfl ?_ (by repeat' (first | exact True.intro | refine And.intro ?_ ?_ | exact hS' | exact hM | exact hcl | exact hE | exact hmi | exact hlr | exact hls | exact hkl | exact Nat.zero_le _ | exact Nat.le_refl _ | exact rfl))
    refine S.go false rfl (by repeat' (first | exact True.intro | refine And.intro ?_ ?_ | assumption | omega | (dsimp only; omega) | (simp only [Nat.add_eq, Nat.mul_eq, Nat.sub_eq, SV.wd]; omega) | exact rfl)) ?_
    refine S.rd 52 (.l true) rfl (fun _ => by show Value.bool (decide _) = Value.bool _; rfl) ?_
    refine S.go false rfl (by repeat' (first | exact True.intro | refine And.intro ?_ ?_ | assumption | omega | (dsimp only; omega) | (simp only [Nat.add_eq, Nat.mul_eq, Nat.sub_eq, SV.wd]; omega) | exact rfl)) ?_
    exact S.retv rfl rfl rfl rfl rfl
end
theorem QgH (l : List Int) (k : Nat) (h : k < 32) : l.getD (Int.toNat (k : Int)) 0 = Qb (l.take 32) k := by
  rw [Int.toNat_natCast, QE]
  unfold Qb
  rw [List.getElem?_take, if_pos h]
theorem QhY (l : List Int) (k : Nat) : l.getD (Int.toNat (32 + (k : Int))) 0 = Qb (l.drop 32) k := by
  rw [show Int.toNat (32 + (k : Int)) = 32 + k by omega, QE]
  unfold Qb
  rw [List.getElem?_drop]
section
variable {a0 : Option Addr} {n0 c0 : Nat} {m : List Int} (hm : Qe m)
include hm
theorem QjV (hml : m.length <= 9000) {key sig : List Int} (hk : Qe key) (hkl : key.length = 32) (hg : Qe sig) (hgl : sig.length = 64) : ∃ b : Bool, PV Tryz.prog (gR ++ [fB (.slice a0 n0 c0) m]) 12 [.a .u8 key 32, .o a0 n0 c0, .a .u8 sig 64] (.l b) /\ PV Tryz.prog (gR ++ [fB (.slice a0 n0 c0) m]) 13 [.a .u8 key 32, .o a0 n0 c0, .a .u8 sig 64] (.l b) := by
  have upT : ∀ L w, Hs (gR ++ [fB (.slice a0 n0 c0) m]) L w -> Hs gT L w := fun L w h => Qbr L w h.pre.pre
  have upS : ∀ L w, Hs (gR ++ [fB (.slice a0 n0 c0) m]) L w -> Hs (gS ++ [fB (.slice a0 n0 c0) m]) L w := fun L w h => h.pre.pre.app ⟨(h.get (i := 7) rfl : (fB (.slice a0 n0 c0) m).h L w), trivial⟩
  have b1 := hg.take 32
  have b2 := hg.drop 32
  have q1 : (sig.take 32).length = 32 := by rw [List.length_take, hgl]; rfl
  have q2 : (sig.drop 32).length = 32 := by rw [List.length_drop, hgl]
  obtain ⟨p1, p2, p3⟩ := E5 (a0 := a0) (n0 := n0) (c0 := c0) hm (by omega : m.length < 1000000) hk hkl hg hgl
  obtain ⟨r1, r2, r3⟩ := Qde (a0 := a0) (n0 := n0) (c0 := c0) hm hml hkl hgl q1 q2 (fun k h => QgH sig k h) (fun k _ => QhY sig k) hk b1
  obtain ⟨n1, n2⟩ := Qkx hk hkl
  have hR := (Qg5 b2 q2).up upT
  by_cases hpt : Yj key
  . have hN := (n1 hpt).up upT
    by_cases hlt : Qp (sig.drop 32) 32 < QH
    . rw [decide_eq_true hlt] at hR
      have hM := ((QkA (UK (sig.take 32) key m) (VU (sig.take 32) key m) b2 q2 (ZP (X8 (Kr key hpt))) (Q0 (X8 (Kr key hpt)))).1 (Es _)).up upT
      rw [EB] at hM
      have h1 := (p3 hlt hpt).up upS
      have h2 := r3 _ _ (Q0 _) (Q0 _) hN hR hM
      by_cases hE : XE (Qq (QG (kB (EY (sig.take 32) key m)) (X8 (Kr key hpt))) (QG (kB (sig.drop 32)) bP)) = sig.take 32
      . exact ⟨true, h1.res (by simp only [SV.den]; rw [decide_eq_true hE]) rfl, h2.res (by simp only [SV.den]; rw [decide_eq_true hE]) rfl⟩
      . exact ⟨false, h1.res (by simp only [SV.den]; rw [decide_eq_false hE]) rfl, h2.res (by simp only [SV.den]; rw [decide_eq_false hE]) rfl⟩
    . rw [decide_eq_false hlt] at hR
      exact ⟨false, (p1 hlt).up upS, r2 _ (Q0 _) hN hR⟩
  . have hN := (n2 hpt).up upT
    refine ⟨false, ?_, r1 _ rfl hN⟩
    by_cases hlt : Qp (sig.drop 32) 32 < QH
    . exact (p2 hlt hpt).up upS
    . exact (p1 hlt).up upS
theorem QaG {key sig : List Int} (hk : Qe key) (hkl : key.length = 32) (hg : Qe sig) (hgl : sig.length = 64) (hn : n0 = m.length) : PV Tryz.prog (gR ++ [fB (.slice a0 n0 c0) m]) 4 [.a .u8 key 32, .o a0 n0 c0, .a .u8 sig 64] (.l true) := by
  have hA := Qig.up (G' := (gR ++ [fB (.slice a0 n0 c0) m])) (fun L w h => h.pre.pre)
  refine PV.mk' Tryz.func4 rfl rfl rfl rfl fun w L hL hG => ?_
  refine S.enter Qm [.a .u8 key 32, .o a0 n0 c0, .a .u8 sig 64] (gR ++ [fB (.slice a0 n0 c0) m]) Tryz.func4 rfl rfl rfl (fun _ => rfl) hL hG ?_
  refine S.go false rfl (by repeat' (first | exact True.intro | refine And.intro ?_ ?_ | assumption | omega | (dsimp only; omega) | (simp only [Nat.add_eq, Nat.mul_eq, Nat.sub_eq, SV.wd]; omega) | exact rfl)) ?_
  refine S.cv rfl rfl rfl rfl rfl rfl hA ?_
  refine S.g false rfl ?_
  refine S.cond rfl (fun c => ?_) (fun c => ?_)
  . refine S.g false rfl ?_
    exact S.retv rfl rfl rfl rfl rfl
  . obtain ⟨b, hP, hR⟩ := QjV (a0 := a0) (n0 := n0) (c0 := c0) hm (by omega : m.length <= 9000) hk hkl hg hgl
    refine S.g false rfl ?_
    cases b with
    | true =>
      refine S.drp false [(3, .l true), (7, .l true)] rfl rfl rfl ?_ (by repeat' (first | exact True.intro | refine And.intro ?_ ?_ | assumption | omega | (dsimp only; omega) | (simp only [Nat.add_eq, Nat.mul_eq, Nat.sub_eq, SV.wd]; omega) | exact rfl))
      refine S.g false rfl ?_
      exact S.retv rfl rfl rfl rfl rfl
    | false =>
      refine S.drp false [(3, .l false), (7, .l false)] rfl rfl rfl ?_ (by repeat' (first | exact True.intro | refine And.intro ?_ ?_ | assumption | omega | (dsimp only; omega) | (simp only [Nat.add_eq, Nat.mul_eq, Nat.sub_eq, SV.wd]; omega) | exact rfl))
      refine S.g false rfl ?_
      exact S.retv rfl rfl rfl rfl rfl
end
theorem KE (key : List Int) (v : Value) (m : List Int) (sig : List Int) (W : World) (hT : Hs gR [] W) (hk : Qe key) (hkl : key.length = 32) (hr : JS .u8 W v m) (hm : Qe m) (hg : Qe sig) (hgl : sig.length = 64) : Calls Tryz.prog 4 #[Xz .u8 key, v, Xz .u8 sig] W fun e W' => e = .returned (.bool true) /\ Below W.heap.size W W' := by
  obtain ⟨a, c, rfl, hf⟩ := QkM hr
  refine Calls.mono ((QaG hm hk hkl hg hgl (a0 := a) (c0 := c) rfl).h W [] (fun x h => by cases h) (hT.app ⟨hf, trivial⟩)) fun e W' ⟨u, he, ⟨x, hx, _⟩, hb⟩ => ⟨by rw [he, hx]; rfl, hb⟩
end Go.Proofs.YtbiboamaigedjaaGreatDoor

/- The reference of sha: sums by words of 32 bits. The reference's Sum256, and the two Seeds. The law EdsigSigns, walked by the machine of symbols over a -/
import Derived.Lib.ConvBytes
import Derived.Test.YtbiboamaigedjaaGreatDoorESF
namespace Go.Proofs.YtbiboamaigedjaaGreatDoor
open Go.RowKit
set_option linter.unusedVariables false
set_option linter.unusedSimpArgs false
set_option maxRecDepth 8000
set_option maxHeartbeats 2000000

set_option maxHeartbeats 4000000 in
theorem Qcx (D : List Int) (sv : Value) (w : World) (L : List Nat) (hL : LL L w) (h1 : Zh 1 L w sv (D.map e8)) (hT : ZJ L w)  (hDm : D.length <= 10000) (hDb : Qh D) : CV Tryz.prog 66 [sv, .int .i64 32] w fun v W => Zh 1 L W v ((Yh D).map e8) := by
  refine QbN (N := 280) (f := [(0, sv), (1, .int .i64 32)]) Tryz.func66 rfl rfl rfl rfl fun Q hQ hE => ?_
  have hB := Below.refl w.heap.size w
  have hL0 := hL
  have h1m : D.length <= maxLen := by have := h1.len; rwa [List.length_map] at this
  unfold maxLen at h1m
  refine WC.seq fun K1 hK1 => ?_
  refine WC.region ?_
  refine WL.val (Qi rfl rfl) rfl rfl ?_
  refine WL.nil ?_
  refine hK1 ?_
  refine WC.seq fun K2 hK2 => ?_
  refine WC.region ?_
  refine WL.val (Xs rfl rfl (Ja _ _ _)) rfl rfl ?_
  refine WL.val (Xs rfl rfl (Ja _ _ _)) rfl rfl ?_
  refine WL.val (Xs rfl rfl (Ja _ _ _)) rfl rfl ?_
  refine WL.val (Xs rfl rfl (Ja _ _ _)) rfl rfl ?_
  refine WL.val (Xs rfl rfl (Qdi _ _ _ _ _ _ _ _ _ _ _ _)) rfl rfl ?_
  refine WL.get (Z0 rfl G3 rfl) rfl rfl ?_
  rintro _ W3 ⟨rfl, k4, b5, z6⟩
  have l7 := hB.size
  replace h1 := h1.more b5 (Nat.le_refl _)
  replace hT := hT.more b5 (Nat.le_refl _)
  replace hB := Qk hB b5
  replace hL := LL.more hL z6
  refine WL.do (Xr (cs' := [.int .i64 2, .int .i64 13, .int .i64 22, .int .i64 6, .int .i64 11, .int .i64 25, .int .i64 7, .int .i64 18, .int .i64 3, .int .i64 17, .int .i64 19, .int .i64 10]) (vs := [.int .i64 2, .int .i64 13, .int .i64 22, .int .i64 6, .int .i64 11, .int .i64 25, .int .i64 7, .int .i64 18, .int .i64 3, .int .i64 17, .int .i64 19, .int .i64 10]) rfl Vq rfl rfl rfl (Qx rfl (Qx rfl (Qx rfl (Qx rfl (Qx rfl (Qx rfl (Qx rfl (Qx rfl (Qx rfl (Qx rfl (Qx rfl (Qx rfl Yc)))))))))))) k4 rfl (Nat.le_of_ble_eq_true rfl) rfl) rfl ?_
  rintro _ W8 ⟨k10, o9⟩
  clear k4
  replace h1 := h1.only o9 (.head _)
  replace hT := hT.only o9 (.head _)
  replace hB := o9.below hB l7
  replace hL := LL.only hL o9
  refine WL.nil ?_
  refine hK2 ?_
  refine WC.seq fun K11 hK11 => ?_
  refine WC.region ?_
  refine WL.val (Qi rfl rfl) rfl rfl ?_
  refine WL.nil ?_
  refine hK11 ?_
  refine WC.seq fun K12 hK12 => ?_
  refine WC.seq fun K13 hK13 => ?_
  refine WC.region ?_
  refine WL.val (Qe rfl rfl) rfl rfl ?_
  refine WL.val (Qda rfl rfl rfl) rfl rfl ?_
  refine WL.nil ?_
  refine hK13 ?_
  refine WC.condF rfl ?_
  refine WC.skip ?_
  refine hK12 ?_
  refine WC.seq fun K14 hK14 => ?_
  have hDl : D.length <= 10000 := hDm
  have zh1 := h1
  have zhT := hT
  have zk10 := k10
  have zhB := hB
  have zhL := hL
  have hC : XY W8 (w.heap.size :: L) W8 := Below.refl _ _
  refine WC.region ?_
  refine WL.get (QbK rfl Xg (by decide)) rfl rfl ?_
  rintro u15 W16 ⟨b17, hE⟩
  replace h1 := h1.below b17
  replace hT := hT.below b17
  replace hC := hC.below b17
  replace k10 := k10.below b17
  replace hB := Qk hB b17
  replace hL := LL.below hL b17
  refine WL.val (Qe rfl rfl) rfl rfl ?_
  refine WL.get (QhW (base := W8.heap.size) rfl Xg rfl rfl hE h1 (J6 D) (by rw [List.length_map]; unfold maxLen; omega) (by rw [List.length_map]; omega) (Below.size hC)) rfl rfl ?_
  rintro u18 W19 ⟨b20, hN⟩
  replace h1 := h1.below b20
  replace hT := hT.below b20
  replace hC := hC.below b20
  replace k10 := k10.below b20
  replace hB := Qk hB b20
  replace hL := LL.below hL b20
  have h5 : Yp 1 W8.heap.size (D.map e8) u18 W19 := hN.toV
  refine WL.get (V3 (r := e8 128) rfl Xg (by decide) (by decide) rfl rfl rfl) rfl rfl ?_
  rintro x21 W22 ⟨k24, b23, z25⟩
  replace h1 := h1.below b23
  replace hT := hT.below b23
  replace hC := hC.below b23
  replace h5 := h5.below b23
  replace k10 := k10.below b23
  replace hB := Qk hB b23
  replace hL := LL.below hL b23
  have hx := k24.rd (L := []) (by simp)
  refine WL.get (Jz (base := W8.heap.size) rfl Xg rfl rfl h5 hx (J6 [128]) (by simp [maxLen]; omega) (by simp; omega) (Below.size hC)) rfl rfl ?_
  rintro x26 W27 ⟨h5, b28⟩
  replace h5 : Yp 1 W8.heap.size ((D ++ [128]).map e8) x26 W27 := by rw [List.map_append]; exact h5
  replace hC : XY W8 (w.heap.size :: L) W27 := Below.trans hC b28
  replace h1 := zh1.below hC
  replace hT := zhT.below hC
  replace k10 := zk10.below hC
  replace hB := Qk zhB hC
  replace hL := LL.below zhL hC
  refine WL.val (Qi rfl rfl) rfl rfl ?_
  refine WL.nil ?_
  refine hK14 ?_
  refine WC.seq fun K29 hK29 => ?_
  refine WC.block ?_
  have hpg := GI D.length
  refine WC.loop2 (fun (j : Nat) (ov : Value) => [(0, sv), (1, .int .i64 32), (5, .pointer (some ⟨w.heap.size, 0, none⟩)), (6, .int .i64 64), (7, ov)]) (fun (j : Nat) (ov : Value) W => j <= QM D.length - D.length - 9 /\ Below w.heap.size w W /\ LL (w.heap.size :: L) W /\ Zh 1 (w.heap.size :: L) W sv (D.map e8) /\ ZJ (w.heap.size :: L) W /\ XY W8 (w.heap.size :: L) W /\ Yp 1 W8.heap.size ((D ++ 128 :: List.replicate j 0).map e8) ov W /\ Q8 W w.heap.size [.int .i64 2, .int .i64 13, .int .i64 22, .int .i64 6, .int .i64 11, .int .i64 25, .int .i64 7, .int .i64 18, .int .i64 3, .int .i64 17, .int .i64 19, .int .i64 10]) (fun (j : Nat) (ov : Value) => QM D.length - j) 0 x26 (by repeat first | exact trivial | exact And.intro rfl trivial | refine And.intro rfl ?_ | refine And.intro (congrArg (fun z : Int => some (Value.int .i64 z)) (by omega)) ?_ | refine And.intro (congrArg (fun z : Bool => some (Value.bool z)) (by first | exact (decide_eq_true (by omega)).symm | exact (decide_eq_false (by omega)).symm)) ?_) ⟨Nat.zero_le _, hB, hL, h1, hT, hC, h5, k10⟩ ?_
  clear h1 hT hC h5 k10 hB hL
  rintro K30 j ov W31 ⟨hj, hB, hL, h1, hT, hC, h5, k10⟩ hK30
  have hol : (D ++ 128 :: List.replicate j 0).length = D.length + 1 + j := by simp; omega
  refine WC.seq fun K32 hK32 => ?_
  refine WC.seq fun K33 hK33 => ?_
  refine WC.region ?_
  refine WL.val (Qe rfl rfl) rfl rfl ?_
  refine WL.val (V4 rfl XO rfl (h5.rd (L := []) (by simp))) rfl rfl ?_
  have hln : ((D ++ 128 :: List.replicate j 0).map e8).length = (D ++ 128 :: List.replicate j 0).length := List.length_map _
  refine WL.val (Qe rfl rfl) rfl rfl ?_
  refine WL.val (V4 rfl XO rfl h1) rfl rfl ?_
  refine WL.val (Qe rfl rfl) rfl rfl ?_
  refine WL.get (ZT rfl Tryz.func104 rfl rfl rfl ((show CV _ _ [.int .i64 ((D.map e8).length : Int), .int .i64 32] _ (fun v _ => v = .int .i64 ((QM D.length : Nat) : Int)) from by rw [List.length_map]; have := Yy (KM (D.length : Int) 32 W31 (by omega) (by decide)); rw [Qbc _ (by omega)] at this; exact this))) rfl rfl ?_
  rintro _ W35 ⟨rfl, b34⟩
  replace h1 := h1.below b34
  replace hT := hT.below b34
  replace hC := hC.below b34
  replace h5 := h5.below b34
  replace k10 := k10.below b34
  replace hB := Qk hB b34
  replace hL := LL.below hL b34
  refine WL.val (X2 (r := ((QM D.length : Nat) : Int) - 8) rfl rfl rfl (QD (by omega))) rfl rfl ?_
  refine WL.val (ZF rfl rfl rfl) rfl rfl ?_
  refine WL.nil ?_
  refine hK33 ?_
  refine WC.cond rfl (fun c36 => ?_) (fun c36 => ?_)
  .
    replace c36 := of_decide_eq_true c36
    refine WC.skip ?_
    refine hK32 ?_
    refine WC.block ?_
    refine WC.region ?_
    refine WL.val (Qe rfl rfl) rfl rfl ?_
    refine WL.get (V3 (r := e8 0) rfl Xg (by decide) (by decide) rfl rfl rfl) rfl rfl ?_
    rintro x37 W38 ⟨k40, b39, z41⟩
    replace h1 := h1.below b39
    replace hT := hT.below b39
    replace hC := hC.below b39
    replace h5 := h5.below b39
    replace k10 := k10.below b39
    replace hB := Qk hB b39
    replace hL := LL.below hL b39
    have hx := k40.rd (L := []) (by simp)
    refine WL.get (Jz (base := W8.heap.size) rfl Xg rfl rfl h5 hx (J6 [0]) (by simp [maxLen]; omega) (by simp; omega) (Below.size hC)) rfl rfl ?_
    rintro x42 W43 ⟨h5, b44⟩
    replace h5 : Yp 1 W8.heap.size (((D ++ 128 :: List.replicate j 0) ++ [0]).map e8) x42 W43 := by rw [List.map_append]; exact h5
    replace hC : XY W8 (w.heap.size :: L) W43 := Below.trans hC b44
    replace h1 := zh1.below hC
    replace hT := zhT.below hC
    replace k10 := zk10.below hC
    replace hB := Qk zhB hC
    replace hL := LL.below zhL hC
    refine WL.val (Qi rfl rfl) rfl rfl ?_
    refine WL.nil ?_
    rw [show ((D ++ 128 :: List.replicate j 0) ++ [0]) = D ++ 128 :: List.replicate (j + 1) 0 from by rw [List.replicate_succ']; simp] at h5
    exact hK30 (j + 1) x42 ⟨(by simp only [List.length_map] at *; omega), hB, hL, h1, hT, hC, h5, k10⟩ (by simp only [List.length_map] at *; omega) (by repeat first | exact trivial | exact And.intro rfl trivial | refine And.intro rfl ?_ | refine And.intro (congrArg (fun z : Int => some (Value.int .i64 z)) (by omega)) ?_ | refine And.intro (congrArg (fun z : Bool => some (Value.bool z)) (by first | exact (decide_eq_true (by omega)).symm | exact (decide_eq_false (by omega)).symm)) ?_)
  .
    replace c36 := of_decide_eq_false c36
    refine WC.exit ?_
    refine hK29 ?_
    refine WC.seq fun K45 hK45 => ?_
    have hje : j = QM D.length - D.length - 9 := (by simp only [List.length_map] at *; omega)
    refine WC.region ?_
    refine WL.val (Qe rfl rfl) rfl rfl ?_
    refine WL.val (V4 rfl XO rfl h1) rfl rfl ?_
    refine WL.val (XZ (r := (D.length : Int)) rfl Tryz.underlying3 Tryz.underlying47 rfl (by rw [Q9, List.length_map]; omega)) rfl rfl ?_
    refine WL.val (Jy (r := (D.length : Int) * 8) rfl rfl rfl (by rw [Q9]; omega)) rfl rfl ?_
    refine WL.val (Qi rfl rfl) rfl rfl ?_
    refine WL.nil ?_
    refine hK45 ?_
    refine WC.seq fun K46 hK46 => ?_
    refine WC.seq fun K47 hK47 => ?_
    refine WC.region ?_
    refine WL.val (Qi rfl rfl) rfl rfl ?_
    refine WL.nil ?_
    refine hK47 ?_
    refine WC.block ?_
    replace h5 : Yp 1 W8.heap.size (((D ++ 128 :: List.replicate j 0) ++ (XK D.length).take 0).map e8) ov W35 := by rw [List.take_zero, List.append_nil]; exact h5
    refine WC.loop2 (fun (k : Nat) (ov2 : Value) => [(1, .int .i64 32), (5, .pointer (some ⟨w.heap.size, 0, none⟩)), (6, .int .i64 64), (8, .int .u64 ((D.length : Int) * 8)), (7, ov2), (9, .int .i64 (56 - 8 * (k : Int)))]) (fun (k : Nat) (ov2 : Value) W => k <= 8 /\ Below w.heap.size w W /\ LL (w.heap.size :: L) W /\ Zh 1 (w.heap.size :: L) W sv (D.map e8) /\ ZJ (w.heap.size :: L) W /\ XY W8 (w.heap.size :: L) W /\ Yp 1 W8.heap.size (((D ++ 128 :: List.replicate j 0) ++ (XK D.length).take k).map e8) ov2 W /\ Q8 W w.heap.size [.int .i64 2, .int .i64 13, .int .i64 22, .int .i64 6, .int .i64 11, .int .i64 25, .int .i64 7, .int .i64 18, .int .i64 3, .int .i64 17, .int .i64 19, .int .i64 10]) (fun (k : Nat) (ov2 : Value) => 8 - k) 0 ov (by repeat first | exact trivial | exact And.intro rfl trivial | refine And.intro rfl ?_ | refine And.intro (congrArg (fun z : Int => some (Value.int .i64 z)) (by omega)) ?_ | refine And.intro (congrArg (fun z : Bool => some (Value.bool z)) (by first | exact (decide_eq_true (by omega)).symm | exact (decide_eq_false (by omega)).symm)) ?_) ⟨(by decide), hB, hL, h1, hT, hC, h5, k10⟩ ?_
    clear h1 hT hC h5 k10 hB hL
    rintro K48 k ov2 W49 ⟨hk, hB, hL, h1, hT, hC, h5, k10⟩ hK48
    have hol2 : ((D ++ 128 :: List.replicate j 0) ++ (XK D.length).take k).length = D.length + 1 + j + k := by simp [Yi]; omega
    refine WC.seq fun K50 hK50 => ?_
    refine WC.seq fun K51 hK51 => ?_
    refine WC.region ?_
    refine WL.val (Qe rfl rfl) rfl rfl ?_
    refine WL.val (FP rfl rfl rfl) rfl rfl ?_
    refine WL.nil ?_
    refine hK51 ?_
    refine WC.cond rfl (fun c52 => ?_) (fun c52 => ?_)
    .
      replace c52 := of_decide_eq_true c52
      refine WC.skip ?_
      refine hK50 ?_
      refine WC.seq fun K53 hK53 => ?_
      refine WC.block ?_
      refine WC.region ?_
      refine WL.val (Qe rfl rfl) rfl rfl ?_
      refine WL.val (Qe rfl rfl) rfl rfl ?_
      refine WL.val (Qe rfl rfl) rfl rfl ?_
      refine WL.val (XZ (r := (56 - 8 * (k : Int))) rfl Tryz.underlying3 Tryz.underlying75 rfl (by rw [Q9]; omega)) rfl rfl ?_
      refine WL.val (Jw rfl rfl rfl (by omega) (by show _ <= (64 : Int); omega) rfl) rfl rfl ?_
      refine WL.val (XZ (r := Qb (XK D.length) k) rfl Tryz.underlying47 Tryz.underlying5 rfl ((E4 _).trans (QcW _ _ (by omega)))) rfl rfl ?_
      refine WL.get (V3 (r := e8 (Qb (XK D.length) k)) rfl Xg (by decide) (by decide) rfl rfl rfl) rfl rfl ?_
      rintro x54 W55 ⟨k57, b56, z58⟩
      replace h1 := h1.below b56
      replace hT := hT.below b56
      replace hC := hC.below b56
      replace h5 := h5.below b56
      replace k10 := k10.below b56
      replace hB := Qk hB b56
      replace hL := LL.below hL b56
      have hx := k57.rd (L := []) (by simp)
      refine WL.get (Jz (base := W8.heap.size) rfl Xg rfl rfl h5 hx (J6 [Qb (XK D.length) k]) (by simp [maxLen]; omega) (by simp; omega) (Below.size hC)) rfl rfl ?_
      rintro x59 W60 ⟨h5, b61⟩
      replace h5 : Yp 1 W8.heap.size ((((D ++ 128 :: List.replicate j 0) ++ (XK D.length).take k) ++ [Qb (XK D.length) k]).map e8) x59 W60 := by rw [List.map_append]; exact h5
      replace hC : XY W8 (w.heap.size :: L) W60 := Below.trans hC b61
      replace h1 := zh1.below hC
      replace hT := zhT.below hC
      replace k10 := zk10.below hC
      replace hB := Qk zhB hC
      replace hL := LL.below zhL hC
      refine WL.val (Qi rfl rfl) rfl rfl ?_
      refine WL.nil ?_
      refine hK53 ?_
      refine WC.region ?_
      refine WL.val (Qe rfl rfl) rfl rfl ?_
      refine WL.val (X2 (r := (56 - 8 * ((k + 1 : Nat) : Int))) rfl rfl rfl (by rw [QD (by omega)]; omega)) rfl rfl ?_
      refine WL.val (Qi rfl rfl) rfl rfl ?_
      refine WL.nil ?_
      rw [show (((D ++ 128 :: List.replicate j 0) ++ (XK D.length).take k) ++ [Qb (XK D.length) k]) = (D ++ 128 :: List.replicate j 0) ++ (XK D.length).take (k + 1) from by rw [ZM _ _ (by rw [Yi]; omega), List.append_assoc]] at h5
      exact hK48 (k + 1) x59 ⟨(by omega), hB, hL, h1, hT, hC, h5, k10⟩ (by omega) (by repeat first | exact trivial | exact And.intro rfl trivial | refine And.intro rfl ?_ | refine And.intro (congrArg (fun z : Int => some (Value.int .i64 z)) (by omega)) ?_ | refine And.intro (congrArg (fun z : Bool => some (Value.bool z)) (by first | exact (decide_eq_true (by omega)).symm | exact (decide_eq_false (by omega)).symm)) ?_)
    .
      replace c52 := of_decide_eq_false c52
      refine WC.exit ?_
      refine hK46 ?_
      refine WC.seq fun K62 hK62 => ?_
      have hfe : ((D ++ 128 :: List.replicate j 0) ++ (XK D.length).take k) = (Xu D) := by rw [DO, hje, List.take_of_length_le (by rw [Yi]; omega)]
      rw [hfe] at h5
      have hA : Zh 1 (w.heap.size :: L) W49 ov2 ((Xu D).map e8) := h5.rd zhL
      have hFl : (Xu D).length = QM D.length := QcZ D
      have hFb : Qh (Xu D) := DP hDb
      have hFm : ((Xu D).map e8).length = (Xu D).length := List.length_map _
      refine WC.region ?_
      refine WL.get (Z0 (cs := Q6 (List.replicate 8 0)) rfl UI Gj) rfl rfl ?_
      rintro _ W63 ⟨rfl, k64, b65, z66⟩
      have n67 : w.heap.size ≠ W49.heap.size := Nat.ne_of_lt k10.lt
      have l68 := hB.size
      replace hT := hT.more b65 (Nat.le_refl _)
      replace hA := hA.more b65 (Nat.le_refl _)
      replace k10 := k10.below b65
      replace hB := Qk hB b65
      replace hL := LL.more hL z66
      refine WL.nil ?_
      refine hK62 ?_
      refine WC.seq fun K69 hK69 => ?_
      refine WC.seq fun K70 hK70 => ?_
      refine WC.region ?_
      refine WL.val (Qi rfl rfl) rfl rfl ?_
      refine WL.nil ?_
      refine hK70 ?_
      refine WC.block ?_
      replace k64 : Q8 W63 W49.heap.size (Q6 (Q3.take 0 ++ (List.replicate 8 (0 : Int)).drop 0)) := k64
      refine WC.loop (fun (i : Nat) => [(1, .int .i64 32), (5, .pointer (some ⟨w.heap.size, 0, none⟩)), (6, .int .i64 64), (7, ov2), (10, .pointer (some ⟨W49.heap.size, 0, none⟩)), (11, .int .i64 (i : Int))]) (fun (i : Nat) W => i <= 8 /\ Below w.heap.size w W /\ LL (W49.heap.size :: w.heap.size :: L) W /\ ZJ (W49.heap.size :: w.heap.size :: L) W /\ Zh 1 (W49.heap.size :: w.heap.size :: L) W ov2 ((Xu D).map e8) /\ Q8 W w.heap.size [.int .i64 2, .int .i64 13, .int .i64 22, .int .i64 6, .int .i64 11, .int .i64 25, .int .i64 7, .int .i64 18, .int .i64 3, .int .i64 17, .int .i64 19, .int .i64 10] /\ Q8 W W49.heap.size (Q6 (Q3.take i ++ (List.replicate 8 (0 : Int)).drop i))) (fun (i : Nat) => 8 - i) 0 (by repeat first | exact trivial | exact And.intro rfl trivial | refine And.intro rfl ?_ | refine And.intro (congrArg (fun z : Int => some (Value.int .i64 z)) (by omega)) ?_ | refine And.intro (congrArg (fun z : Bool => some (Value.bool z)) (by first | exact (decide_eq_true (by omega)).symm | exact (decide_eq_false (by omega)).symm)) ?_) ⟨(by decide), hB, hL, hT, hA, k10, k64⟩ ?_
      clear hT hA k10 k64 hB hL
      rintro K71 i W72 ⟨hi, hB, hL, hT, hA, k10, k64⟩ hK71
      refine WC.seq fun K73 hK73 => ?_
      refine WC.seq fun K74 hK74 => ?_
      refine WC.region ?_
      refine WL.val (Qe rfl rfl) rfl rfl ?_
      refine WL.val (ZF rfl rfl rfl) rfl rfl ?_
      refine WL.nil ?_
      refine hK74 ?_
      refine WC.cond rfl (fun c75 => ?_) (fun c75 => ?_)
      .
        replace c75 := of_decide_eq_true c75
        refine WC.skip ?_
        refine hK73 ?_
        refine WC.seq fun K76 hK76 => ?_
        refine WC.block ?_
        refine WC.region ?_
        refine WL.val (Qe rfl rfl) rfl rfl ?_
        refine WL.val (Qe rfl rfl) rfl rfl ?_
        refine WL.val (Qm (o1 := i) rfl Tryz.underlying68 Qd rfl rfl (by omega) (by first | (simp; done) | omega)) rfl rfl ?_
        refine WL.val (Qv rfl Ql rfl (hT.1.be i (by omega))) rfl rfl ?_
        refine WL.val (Qe rfl rfl) rfl rfl ?_
        refine WL.val (X2 (r := 32) rfl rfl rfl (by decide)) rfl rfl ?_
        refine WL.val (XZ (r := 32) rfl Tryz.underlying3 Tryz.underlying75 rfl (by decide)) rfl rfl ?_
        refine WL.val (Jw rfl rfl rfl (by decide) (by decide) (F4 i (by omega)).symm) rfl rfl ?_
        refine WL.val (Qm (o1 := i) rfl Tryz.underlying68 Qd rfl rfl (by omega) (by first | (simp; done) | omega)) rfl rfl ?_
        refine WL.do (Xr (cs' := Q6 ((Q3.take i ++ (List.replicate 8 (0 : Int)).drop i).set i (Qb Q3 i))) (vs := [.int .u64 (Qb Q3 i)]) rfl Qd rfl rfl rfl (Qx rfl Yc) k64 rfl (by rw [X8, show (Q3.take i ++ (List.replicate 8 (0 : Int)).drop i).length = 8 from (ZZ Y3 JO hi)]; exact (by omega)) (QaN (by rw [show (Q3.take i ++ (List.replicate 8 (0 : Int)).drop i).length = 8 from (ZZ Y3 JO hi)]; exact (by omega)))) rfl ?_
        rintro _ W77 ⟨k79, o78⟩
        replace k10 := k10.other o78 n67
        clear k64
        replace hT := hT.only o78 (.head _)
        replace hA := hA.only o78 (.head _)
        replace hB := o78.below hB l68
        replace hL := LL.only hL o78
        refine WL.nil ?_
        refine hK76 ?_
        refine WC.region ?_
        refine WL.val (Qe rfl rfl) rfl rfl ?_
        refine WL.val (QW (r := (i : Int) + 1) rfl rfl rfl (QD (by omega))) rfl rfl ?_
        refine WL.val (Qi rfl rfl) rfl rfl ?_
        refine WL.nil ?_
        rw [Hy Y3 JO (by omega)] at k79
        exact hK71 (i + 1) ⟨(by omega), hB, hL, hT, hA, k10, k79⟩ (by omega) (by repeat first | exact trivial | exact And.intro rfl trivial | refine And.intro rfl ?_ | refine And.intro (congrArg (fun z : Int => some (Value.int .i64 z)) (by omega)) ?_ | refine And.intro (congrArg (fun z : Bool => some (Value.bool z)) (by first | exact (decide_eq_true (by omega)).symm | exact (decide_eq_false (by omega)).symm)) ?_)
      .
        replace c75 := of_decide_eq_false c75
        refine WC.exit ?_
        refine hK69 ?_
        refine WC.seq fun K80 hK80 => ?_
        have hi8 : i = 8 := by omega
        subst hi8
        replace k64 : Q8 W72 W49.heap.size (Q6 (QU Q3 (Xu D) 0)) := by have e : Q3.take 8 ++ (List.replicate 8 (0 : Int)).drop 8 = Q3 := (by rw [List.take_of_length_le (by rw [Y3]; exact Nat.le_refl _)]; simp); rw [e] at k64; exact k64
        refine WC.region ?_
        refine WL.val (Qe rfl rfl) rfl rfl ?_
        refine WL.val (Kx (r := 4) rfl rfl rfl (by omega) (by decide)) rfl rfl ?_
        refine WL.val (Qi rfl rfl) rfl rfl ?_
        refine WL.nil ?_
        refine hK80 ?_
        refine WC.seq fun K81 hK81 => ?_
        refine WC.seq fun K82 hK82 => ?_
        refine WC.region ?_
        refine WL.val (Qi rfl rfl) rfl rfl ?_
        refine WL.nil ?_
        refine hK82 ?_
        refine WC.block ?_
        refine WC.loop (fun (q : Nat) => [(1, .int .i64 32), (5, .pointer (some ⟨w.heap.size, 0, none⟩)), (6, .int .i64 64), (7, ov2), (10, .pointer (some ⟨W49.heap.size, 0, none⟩)), (12, .int .i64 4), (13, .int .i64 ((q * 64 : Nat) : Int))]) (fun (q : Nat) W => q * 64 <= QM D.length /\ Below w.heap.size w W /\ LL (W49.heap.size :: w.heap.size :: L) W /\ ZJ (W49.heap.size :: w.heap.size :: L) W /\ Zh 1 (W49.heap.size :: w.heap.size :: L) W ov2 ((Xu D).map e8) /\ Q8 W w.heap.size [.int .i64 2, .int .i64 13, .int .i64 22, .int .i64 6, .int .i64 11, .int .i64 25, .int .i64 7, .int .i64 18, .int .i64 3, .int .i64 17, .int .i64 19, .int .i64 10] /\ Q8 W W49.heap.size (Q6 (QU Q3 (Xu D) q))) (fun (q : Nat) => QM D.length - q * 64) 0 (by repeat first | exact trivial | exact And.intro rfl trivial | refine And.intro rfl ?_ | refine And.intro (congrArg (fun z : Int => some (Value.int .i64 z)) (by omega)) ?_ | refine And.intro (congrArg (fun z : Bool => some (Value.bool z)) (by first | exact (decide_eq_true (by omega)).symm | exact (decide_eq_false (by omega)).symm)) ?_) ⟨(by omega), hB, hL, hT, hA, k10, k64⟩ ?_
        clear hT hA k10 k64 hB hL
        rintro K83 q W84 ⟨hq, hB, hL, hT, hA, k10, k64⟩ hK83
        refine WC.seq fun K85 hK85 => ?_
        refine WC.seq fun K86 hK86 => ?_
        refine WC.region ?_
        refine WL.val (Qe rfl rfl) rfl rfl ?_
        refine WL.val (Qe rfl rfl) rfl rfl ?_
        refine WL.val (V4 rfl XO rfl hA) rfl rfl ?_
        refine WL.val (ZF rfl rfl rfl) rfl rfl ?_
        refine WL.nil ?_
        refine hK86 ?_
        refine WC.cond rfl (fun c87 => ?_) (fun c87 => ?_)
        .
          replace c87 := of_decide_eq_true c87
          refine WC.skip ?_
          refine hK85 ?_
          refine WC.seq fun K88 hK88 => ?_
          refine WC.block ?_
          refine WC.seq fun K89 hK89 => ?_
          have hpm := (GI D.length).2.2
          have hc_ := c87
          rw [hFm, hFl] at hc_
          have hqq : q * 64 + 64 <= QM D.length := by omega
          obtain ⟨zs, hzs⟩ : ∃ z, z = ((Xu D).drop (q * 64)).take 64 := ⟨_, rfl⟩
          have hzl : zs.length = 64 := by rw [hzs, List.length_take, List.length_drop, hFl]; omega
          have hzb : Qh zs := fun x hx => hFb x (by rw [hzs] at hx; exact List.mem_of_mem_drop (List.mem_of_mem_take hx))
          obtain ⟨st, hst⟩ : ∃ z, z = QU Q3 (Xu D) q := ⟨_, rfl⟩
          rw [<- hst] at k64
          have hsl : st.length = 8 := by rw [hst]; exact Gw _ _
          have hsi : ∀ x ∈ st, XC x := by rw [hst]; exact Qb5 _ _
          refine WC.region ?_
          refine WL.get (Z0 (cs := Q6 (List.replicate 80 0)) rfl G1 EZ) rfl rfl ?_
          rintro _ W90 ⟨rfl, k91, b92, z93⟩
          have n94 : w.heap.size ≠ W84.heap.size := Nat.ne_of_lt k10.lt
          have n95 : W49.heap.size ≠ W84.heap.size := Nat.ne_of_lt k64.lt
          have l96 := hB.size
          replace hT := hT.more b92 (Nat.le_refl _)
          replace hA := hA.more b92 (Nat.le_refl _)
          replace k10 := k10.below b92
          replace k64 := k64.below b92
          replace hB := Qk hB b92
          replace hL := LL.more hL z93
          refine WL.nil ?_
          refine hK89 ?_
          refine WC.seq fun K97 hK97 => ?_
          refine WC.seq fun K98 hK98 => ?_
          refine WC.region ?_
          refine WL.val (Qi rfl rfl) rfl rfl ?_
          refine WL.nil ?_
          refine hK98 ?_
          refine WC.block ?_
          rw [<- Qa8 zs] at k91
          refine WC.loop (fun (i : Nat) => [(1, .int .i64 32), (5, .pointer (some ⟨w.heap.size, 0, none⟩)), (6, .int .i64 64), (7, ov2), (10, .pointer (some ⟨W49.heap.size, 0, none⟩)), (12, .int .i64 4), (13, .int .i64 ((q * 64 : Nat) : Int)), (14, .pointer (some ⟨W84.heap.size, 0, none⟩)), (15, .int .i64 (i : Int))]) (fun (i : Nat) W => i <= 64 /\ Below w.heap.size w W /\ LL (W84.heap.size :: W49.heap.size :: w.heap.size :: L) W /\ ZJ (W84.heap.size :: W49.heap.size :: w.heap.size :: L) W /\ Zh 1 (W84.heap.size :: W49.heap.size :: w.heap.size :: L) W ov2 ((Xu D).map e8) /\ Q8 W w.heap.size [.int .i64 2, .int .i64 13, .int .i64 22, .int .i64 6, .int .i64 11, .int .i64 25, .int .i64 7, .int .i64 18, .int .i64 3, .int .i64 17, .int .i64 19, .int .i64 10] /\ Q8 W W49.heap.size (Q6 st) /\ Q8 W W84.heap.size (Q6 (XI zs i))) (fun (i : Nat) => 64 - i) 0 (by repeat first | exact trivial | exact And.intro rfl trivial | refine And.intro rfl ?_ | refine And.intro (congrArg (fun z : Int => some (Value.int .i64 z)) (by omega)) ?_ | refine And.intro (congrArg (fun z : Bool => some (Value.bool z)) (by first | exact (decide_eq_true (by omega)).symm | exact (decide_eq_false (by omega)).symm)) ?_) ⟨Nat.zero_le _, hB, hL, hT, hA, k10, k64, k91⟩ ?_
          clear hT hA k10 k64 k91 hB hL
          rintro K99 i W100 ⟨hi, hB, hL, hT, hA, k10, k64, k91⟩ hK99
          refine WC.seq fun K101 hK101 => ?_
          refine WC.seq fun K102 hK102 => ?_
          refine WC.region ?_
          refine WL.val (Qe rfl rfl) rfl rfl ?_
          refine WL.val (Qe rfl rfl) rfl rfl ?_
          refine WL.val (Jy (r := 64) rfl rfl rfl (by decide)) rfl rfl ?_
          refine WL.val (ZF rfl rfl rfl) rfl rfl ?_
          refine WL.nil ?_
          refine hK102 ?_
          refine WC.cond rfl (fun c103 => ?_) (fun c103 => ?_)
          .
            replace c103 := of_decide_eq_true c103
            refine WC.skip ?_
            refine hK101 ?_
            refine WC.seq fun K104 hK104 => ?_
            refine WC.block ?_
            have ez : (Xu D)[q * 64 + i]? = some (Qb zs i) := by have e1 : Qb zs i = Qb (Xu D) (q * 64 + i) := (by rw [hzs]; unfold Qb; rw [List.getElem?_take, if_pos (by omega), List.getElem?_drop]); rw [e1]; exact Qb0 (by omega)
            have hzi := XG (p := fun x => 0 <= x /\ x <= 255) (by decide) hzb i
            have hpl := Qe8 hzb hzl i (by omega)
            refine WC.drawM 17 [(some 98, .is (.int .i64 (i : Int))), (some 99, .is (.int .i64 4)), (some 100, .is (.int .i64 ((i : Int) / 4))), (some 101, .is (.int .i64 (i : Int))), (some 102, .is (.int .i64 4)), (some 103, .is (.int .i64 ((i : Int) / 4))), (some 104, .is (.pointer (some ⟨W84.heap.size, (i / 4), none⟩))), (some 105, .is (.int .u64 (Qb (XI zs i) (i / 4)))), (some 106, .is (.int .u64 (Qb (XI zs i) (i / 4) * 256))), (some 107, .is (ov2)), (some 108, .is (.int .i64 ((q * 64 : Nat) : Int))), (some 109, .is (.int .i64 (i : Int))), (some 110, .is (.int .i64 (((q * 64 : Nat) : Int) + (i : Int)))), (some 111, .by fun u W => PtR (W84.heap.size :: W49.heap.size :: w.heap.size :: L) W u [.int .u8 (Qb zs i)]), (some 112, .is (.int .u8 (Qb zs i))), (some 113, .is (.int .u64 (Qb zs i))), (some 114, .is (.int .u64 (Qb (XI zs i) (i / 4) * 256 + (Qb zs i))))] [[], [], [0, 1], [], [], [3, 4], [5], [6], [7], [], [], [], [10, 11], [9, 12], [13], [14], [8, 15]] (by kernel_rfl) (by kernel_rfl) (by kernel_rfl) (by kernel_rfl) (by kernel_rfl) (by kernel_rfl) (by kernel_rfl) ⟨fun _ _ _ hb h => h.below hb, trivial⟩ ?_ ?_
            .
              refine Qa.cons (fun Wd hd => ?_) ?_
              .
                exact DV.dr (Qe rfl rfl) ⟨Below.refl _ _, rfl⟩
              refine Qa.cons (fun Wd hd => ?_) ?_
              .
                exact DV.dr (Qe rfl rfl) ⟨Below.refl _ _, rfl⟩
              refine Qa.cons (fun Wd hd => ?_) ?_
              .
                exact DV.dr (Kx (r := (i : Int) / 4) rfl rfl rfl (by decide) (by rw [Int.tdiv_eq_ediv_of_nonneg (by omega)]; exact QD (by omega))) ⟨Below.refl _ _, rfl⟩
              refine Qa.cons (fun Wd hd => ?_) ?_
              .
                exact DV.dr (Qe rfl rfl) ⟨Below.refl _ _, rfl⟩
              refine Qa.cons (fun Wd hd => ?_) ?_
              .
                exact DV.dr (Qe rfl rfl) ⟨Below.refl _ _, rfl⟩
              refine Qa.cons (fun Wd hd => ?_) ?_
              .
                exact DV.dr (Kx (r := (i : Int) / 4) rfl rfl rfl (by decide) (by rw [Int.tdiv_eq_ediv_of_nonneg (by omega)]; exact QD (by omega))) ⟨Below.refl _ _, rfl⟩
              refine Qa.cons (fun Wd hd => ?_) ?_
              .
                exact DV.dr (Qm (o1 := (i / 4)) rfl Tryz.underlying125 Qd rfl rfl (by omega) (by first | (simp; done) | omega)) ⟨Below.refl _ _, rfl⟩
              refine Qa.cons (fun Wd hd => ?_) ?_
              .
                have k91 := k91.below hd
                exact DV.dr (Qv rfl Ql rfl (k91.cell (k := (i / 4)) (YG (by rw [show (XI zs i).length = 80 from (ZA _ _)]; exact (by omega))))) ⟨Below.refl _ _, rfl⟩
              refine Qa.cons (fun Wd hd => ?_) ?_
              .
                exact DV.dr (QhO (r := Qb (XI zs i) (i / 4) * 256) rfl rfl rfl (by decide) (by decide) (by rw [Q9, show (2 : Int) ^ (8 : Int).toNat = 256 from by decide]; omega)) ⟨Below.refl _ _, rfl⟩
              refine Qa.cons (fun Wd hd => ?_) ?_
              .
                exact DV.dr (Qe rfl rfl) ⟨Below.refl _ _, rfl⟩
              refine Qa.cons (fun Wd hd => ?_) ?_
              .
                exact DV.dr (Qe rfl rfl) ⟨Below.refl _ _, rfl⟩
              refine Qa.cons (fun Wd hd => ?_) ?_
              .
                exact DV.dr (Qe rfl rfl) ⟨Below.refl _ _, rfl⟩
              refine Qa.cons (fun Wd hd => ?_) ?_
              .
                exact DV.dr (QW (r := ((q * 64 : Nat) : Int) + (i : Int)) rfl rfl rfl (QD (by omega))) ⟨Below.refl _ _, rfl⟩
              refine Qa.cons (fun Wd hd => ?_) ?_
              .
                have hA := hA.below hd
                exact (Qem (q * 64 + i) rfl XO rfl rfl hA (by omega) (QeB ez)).mono (fun v W' h => ⟨by rw [<- h.1]; exact Below.refl _ _, by rw [<- h.1]; exact h.2⟩)
              refine Qa.cons (fun Wd hd => ?_) ?_
              .
                intro u27_13 p27_13
                exact DV.dr (QbJ rfl Qax rfl p27_13) ⟨Below.refl _ _, rfl⟩
              refine Qa.cons (fun Wd hd => ?_) ?_
              .
                exact DV.dr (XZ (r := (Qb zs i)) rfl Tryz.underlying5 Tryz.underlying47 rfl (Ka (by omega))) ⟨Below.refl _ _, rfl⟩
              refine Qa.cons (fun Wd hd => ?_) ?_
              .
                exact DV.dr (DW (r := Qb (XI zs i) (i / 4) * 256 + (Qb zs i)) rfl rfl rfl (Dt _ _ (by omega) (by omega))) ⟨Below.refl _ _, rfl⟩
              exact trivial
            .
              intro W105 b106
              intro u27_13 p27_13
              replace hT := hT.below b106
              replace hA := hA.below b106
              replace k10 := k10.below b106
              replace k64 := k64.below b106
              replace k91 := k91.below b106
              replace hB := Qk hB b106
              replace hL := LL.below hL b106
              refine WL.val (Qm (o1 := (i / 4)) rfl Tryz.underlying125 Qd rfl rfl (by omega) (by first | (simp; done) | omega)) rfl rfl ?_
              refine WL.do (Xr (cs' := Q6 ((XI zs i).set (i / 4) (Qb (XI zs i) (i / 4) * 256 + (Qb zs i)))) (vs := [.int .u64 (Qb (XI zs i) (i / 4) * 256 + (Qb zs i))]) rfl Qd rfl rfl rfl (Qx rfl Yc) k91 rfl (by rw [X8, show (XI zs i).length = 80 from (ZA _ _)]; exact (by omega)) (QaN (by rw [show (XI zs i).length = 80 from (ZA _ _)]; exact (by omega)))) rfl ?_
              rintro _ W107 ⟨k109, o108⟩
              replace k10 := k10.other o108 n94
              replace k64 := k64.other o108 n95
              clear k91
              replace hT := hT.only o108 (.head _)
              replace hA := hA.only o108 (.head _)
              replace p27_13 := p27_13.only o108 (.head _)
              replace hB := o108.below hB l96
              replace hL := LL.only hL o108
              refine WL.nil ?_
              refine hK104 ?_
              refine WC.region ?_
              refine WL.val (Qe rfl rfl) rfl rfl ?_
              refine WL.val (QW (r := (i : Int) + 1) rfl rfl rfl (QD (by omega))) rfl rfl ?_
              refine WL.val (Qi rfl rfl) rfl rfl ?_
              refine WL.nil ?_
              rw [Qa9 zs hzl i (by omega)] at k109
              exact hK99 (i + 1) ⟨(by omega), hB, hL, hT, hA, k10, k64, k109⟩ (by omega) (by repeat first | exact trivial | exact And.intro rfl trivial | refine And.intro rfl ?_ | refine And.intro (congrArg (fun z : Int => some (Value.int .i64 z)) (by omega)) ?_ | refine And.intro (congrArg (fun z : Bool => some (Value.bool z)) (by first | exact (decide_eq_true (by omega)).symm | exact (decide_eq_false (by omega)).symm)) ?_)
          .
            replace c103 := of_decide_eq_false c103
            refine WC.exit ?_
            refine hK97 ?_
            refine WC.seq fun K110 hK110 => ?_
            refine WC.seq fun K111 hK111 => ?_
            refine WC.region ?_
            refine WL.val (Qi rfl rfl) rfl rfl ?_
            refine WL.nil ?_
            refine hK111 ?_
            refine WC.block ?_
            have hi6 : i = 64 := by omega
            subst hi6
            rw [QcI zs hzl] at k91
            refine WC.loop (fun (k : Nat) => [(1, .int .i64 32), (5, .pointer (some ⟨w.heap.size, 0, none⟩)), (6, .int .i64 64), (7, ov2), (10, .pointer (some ⟨W49.heap.size, 0, none⟩)), (12, .int .i64 4), (13, .int .i64 ((q * 64 : Nat) : Int)), (14, .pointer (some ⟨W84.heap.size, 0, none⟩)), (16, .int .i64 ((k + 16 : Nat) : Int))]) (fun (k : Nat) W => k <= 48 /\ Below w.heap.size w W /\ LL (W84.heap.size :: W49.heap.size :: w.heap.size :: L) W /\ ZJ (W84.heap.size :: W49.heap.size :: w.heap.size :: L) W /\ Zh 1 (W84.heap.size :: W49.heap.size :: w.heap.size :: L) W ov2 ((Xu D).map e8) /\ Q8 W w.heap.size [.int .i64 2, .int .i64 13, .int .i64 22, .int .i64 6, .int .i64 11, .int .i64 25, .int .i64 7, .int .i64 18, .int .i64 3, .int .i64 17, .int .i64 19, .int .i64 10] /\ Q8 W W49.heap.size (Q6 st) /\ Q8 W W84.heap.size (Q6 (Qg zs k))) (fun (k : Nat) => 48 - k) 0 (by repeat first | exact trivial | exact And.intro rfl trivial | refine And.intro rfl ?_ | refine And.intro (congrArg (fun z : Int => some (Value.int .i64 z)) (by omega)) ?_ | refine And.intro (congrArg (fun z : Bool => some (Value.bool z)) (by first | exact (decide_eq_true (by omega)).symm | exact (decide_eq_false (by omega)).symm)) ?_) ⟨Nat.zero_le _, hB, hL, hT, hA, k10, k64, k91⟩ ?_
            clear hT hA k10 k64 k91 hB hL
            rintro K112 k W113 ⟨hk, hB, hL, hT, hA, k10, k64, k91⟩ hK112
            refine WC.seq fun K114 hK114 => ?_
            refine WC.seq fun K115 hK115 => ?_
            refine WC.region ?_
            refine WL.val (Qe rfl rfl) rfl rfl ?_
            refine WL.val (Qe rfl rfl) rfl rfl ?_
            refine WL.val (ZF rfl rfl rfl) rfl rfl ?_
            refine WL.nil ?_
            refine hK115 ?_
            refine WC.cond rfl (fun c116 => ?_) (fun c116 => ?_)
            .
              replace c116 := of_decide_eq_true c116
              refine WC.skip ?_
              refine hK114 ?_
              refine WC.seq fun K117 hK117 => ?_
              refine WC.block ?_
              have hsi2 := XG (p := XC) Zf (UN hzb hzl k)
              refine WC.drawM 30 [(some 121, .is (.int .i64 ((k + 16 : Nat) : Int))), (some 122, .is (.int .i64 ((k + 16 : Nat) : Int))), (some 123, .is (.int .i64 (((k + 16 : Nat) : Int) - 16))), (some 124, .is (.pointer (some ⟨W84.heap.size, (k + 16 - 16), none⟩))), (some 125, .is (.int .u64 (Qb (Qg zs k) (k + 16 - 16)))), (some 126, .is (.int .i64 ((k + 16 : Nat) : Int))), (some 127, .is (.int .i64 (((k + 16 : Nat) : Int) - 15))), (some 128, .is (.pointer (some ⟨W84.heap.size, (k + 16 - 15), none⟩))), (some 129, .is (.int .u64 (Qb (Qg zs k) (k + 16 - 15)))), (some 130, .is (.pointer (some ⟨w.heap.size, 6, none⟩))), (some 131, .is (.agg #[.int .i64 7, .int .i64 18, .int .i64 3])), (some 132, .is (.int .i64 32)), (some 133, .is (.int .u64 (VD (Qb (Qg zs k) (k + 16 - 15))))), (some 134, .is (.int .u64 ((Qb (Qg zs k) (k + 16 - 16) + VD (Qb (Qg zs k) (k + 16 - 15))) % 18446744073709551616))), (some 135, .is (.int .i64 ((k + 16 : Nat) : Int))), (some 136, .is (.int .i64 (((k + 16 : Nat) : Int) - 7))), (some 137, .is (.pointer (some ⟨W84.heap.size, (k + 16 - 7), none⟩))), (some 138, .is (.int .u64 (Qb (Qg zs k) (k + 16 - 7)))), (some 139, .is (.int .u64 (((Qb (Qg zs k) (k + 16 - 16) + VD (Qb (Qg zs k) (k + 16 - 15))) % 18446744073709551616 + Qb (Qg zs k) (k + 16 - 7)) % 18446744073709551616))), (some 140, .is (.int .i64 ((k + 16 : Nat) : Int))), (some 141, .is (.int .i64 (((k + 16 : Nat) : Int) - 2))), (some 142, .is (.pointer (some ⟨W84.heap.size, (k + 16 - 2), none⟩))), (some 143, .is (.int .u64 (Qb (Qg zs k) (k + 16 - 2)))), (some 144, .is (.pointer (some ⟨w.heap.size, 9, none⟩))), (some 145, .is (.agg #[.int .i64 17, .int .i64 19, .int .i64 10])), (some 146, .is (.int .i64 32)), (some 147, .is (.int .u64 (UY (Qb (Qg zs k) (k + 16 - 2))))), (some 148, .is (.int .u64 ((((Qb (Qg zs k) (k + 16 - 16) + VD (Qb (Qg zs k) (k + 16 - 15))) % 18446744073709551616 + Qb (Qg zs k) (k + 16 - 7)) % 18446744073709551616 + UY (Qb (Qg zs k) (k + 16 - 2))) % 18446744073709551616))), (some 149, .is (.int .i64 32)), (some 150, .is (.int .u64 (YM (Qg zs k) (16 + k))))] [[], [], [1], [2], [3], [], [5], [6], [7], [], [9], [], [8, 10, 11], [4, 12], [], [14], [15], [16], [13, 17], [], [19], [20], [21], [], [23], [], [22, 24, 25, 12], [18, 26], [], [27, 28, 26]] (by kernel_rfl) (by kernel_rfl) (by kernel_rfl) (by kernel_rfl) (by kernel_rfl) (by kernel_rfl) (by kernel_rfl) (by exact trivial) ?_ ?_
              .
                refine Qa.cons (fun Wd hd => ?_) ?_
                .
                  exact DV.dr (Qe rfl rfl) ⟨Below.refl _ _, rfl⟩
                refine Qa.cons (fun Wd hd => ?_) ?_
                .
                  exact DV.dr (Qe rfl rfl) ⟨Below.refl _ _, rfl⟩
                refine Qa.cons (fun Wd hd => ?_) ?_
                .
                  exact DV.dr (X2 (r := ((k + 16 : Nat) : Int) - 16) rfl rfl rfl (QD (by omega))) ⟨Below.refl _ _, rfl⟩
                refine Qa.cons (fun Wd hd => ?_) ?_
                .
                  exact DV.dr (Qm (o1 := (k + 16 - 16)) rfl Tryz.underlying125 Qd rfl rfl (by omega) (by first | (simp; done) | omega)) ⟨Below.refl _ _, rfl⟩
                refine Qa.cons (fun Wd hd => ?_) ?_
                .
                  have k91 := k91.below hd
                  exact DV.dr (Qv rfl Ql rfl (k91.cell (k := (k + 16 - 16)) (YG (by rw [show (Qg zs k).length = 80 from (XA _ _)]; exact (by omega))))) ⟨Below.refl _ _, rfl⟩
                refine Qa.cons (fun Wd hd => ?_) ?_
                .
                  exact DV.dr (Qe rfl rfl) ⟨Below.refl _ _, rfl⟩
                refine Qa.cons (fun Wd hd => ?_) ?_
                .
                  exact DV.dr (X2 (r := ((k + 16 : Nat) : Int) - 15) rfl rfl rfl (QD (by omega))) ⟨Below.refl _ _, rfl⟩
                refine Qa.cons (fun Wd hd => ?_) ?_
                .
                  exact DV.dr (Qm (o1 := (k + 16 - 15)) rfl Tryz.underlying125 Qd rfl rfl (by omega) (by first | (simp; done) | omega)) ⟨Below.refl _ _, rfl⟩
                refine Qa.cons (fun Wd hd => ?_) ?_
                .
                  have k91 := k91.below hd
                  exact DV.dr (Qv rfl Ql rfl (k91.cell (k := (k + 16 - 15)) (YG (by rw [show (Qg zs k).length = 80 from (XA _ _)]; exact (by omega))))) ⟨Below.refl _ _, rfl⟩
                refine Qa.cons (fun Wd hd => ?_) ?_
                .
                  exact DV.dr (Qm (o1 := 6) rfl Tryz.underlying123 XP rfl rfl (by decide) rfl) ⟨Below.refl _ _, rfl⟩
                refine Qa.cons (fun Wd hd => ?_) ?_
                .
                  have k10 := k10.below hd
                  exact DV.dr (Zk (cs := [.int .i64 7, .int .i64 18, .int .i64 3]) rfl X5 rfl (k10.part 6 3) rfl) ⟨Below.refl _ _, rfl⟩
                refine Qa.cons (fun Wd hd => ?_) ?_
                .
                  exact DV.dr (Qe rfl rfl) ⟨Below.refl _ _, rfl⟩
                refine Qa.cons (fun Wd hd => ?_) ?_
                .
                  exact DR.mono (ZT rfl Tryz.func106 rfl rfl rfl ((show CV _ _ [_, _, _, _] _ (fun v _ => v = .int .u64 (VD (Qb (Qg zs k) (k + 16 - 15)))) from V5 (U6 (Qb (Qg zs k) (k + 16 - 15)) 7 18 3 Wd (hsi2 _) (by decide) (by decide) (by decide))))) (fun v W' ⟨h, hb⟩ => ⟨hb, (by rw [h]; exact rfl)⟩)
                refine Qa.cons (fun Wd hd => ?_) ?_
                .
                  exact DV.dr (QW rfl rfl rfl (Q9 _)) ⟨Below.refl _ _, rfl⟩
                refine Qa.cons (fun Wd hd => ?_) ?_
                .
                  exact DV.dr (Qe rfl rfl) ⟨Below.refl _ _, rfl⟩
                refine Qa.cons (fun Wd hd => ?_) ?_
                .
                  exact DV.dr (X2 (r := ((k + 16 : Nat) : Int) - 7) rfl rfl rfl (QD (by omega))) ⟨Below.refl _ _, rfl⟩
                refine Qa.cons (fun Wd hd => ?_) ?_
                .
                  exact DV.dr (Qm (o1 := (k + 16 - 7)) rfl Tryz.underlying125 Qd rfl rfl (by omega) (by first | (simp; done) | omega)) ⟨Below.refl _ _, rfl⟩
                refine Qa.cons (fun Wd hd => ?_) ?_
                .
                  have k91 := k91.below hd
                  exact DV.dr (Qv rfl Ql rfl (k91.cell (k := (k + 16 - 7)) (YG (by rw [show (Qg zs k).length = 80 from (XA _ _)]; exact (by omega))))) ⟨Below.refl _ _, rfl⟩
                refine Qa.cons (fun Wd hd => ?_) ?_
                .
                  exact DV.dr (QW rfl rfl rfl (Q9 _)) ⟨Below.refl _ _, rfl⟩
                refine Qa.cons (fun Wd hd => ?_) ?_
                .
                  exact DV.dr (Qe rfl rfl) ⟨Below.refl _ _, rfl⟩
                refine Qa.cons (fun Wd hd => ?_) ?_
                .
                  exact DV.dr (X2 (r := ((k + 16 : Nat) : Int) - 2) rfl rfl rfl (QD (by omega))) ⟨Below.refl _ _, rfl⟩
                refine Qa.cons (fun Wd hd => ?_) ?_
                .
                  exact DV.dr (Qm (o1 := (k + 16 - 2)) rfl Tryz.underlying125 Qd rfl rfl (by omega) (by first | (simp; done) | omega)) ⟨Below.refl _ _, rfl⟩
                refine Qa.cons (fun Wd hd => ?_) ?_
                .
                  have k91 := k91.below hd
                  exact DV.dr (Qv rfl Ql rfl (k91.cell (k := (k + 16 - 2)) (YG (by rw [show (Qg zs k).length = 80 from (XA _ _)]; exact (by omega))))) ⟨Below.refl _ _, rfl⟩
                refine Qa.cons (fun Wd hd => ?_) ?_
                .
                  exact DV.dr (Qm (o1 := 9) rfl Tryz.underlying123 XP rfl rfl (by decide) rfl) ⟨Below.refl _ _, rfl⟩
                refine Qa.cons (fun Wd hd => ?_) ?_
                .
                  have k10 := k10.below hd
                  exact DV.dr (Zk (cs := [.int .i64 17, .int .i64 19, .int .i64 10]) rfl X5 rfl (k10.part 9 3) rfl) ⟨Below.refl _ _, rfl⟩
                refine Qa.cons (fun Wd hd => ?_) ?_
                .
                  exact DV.dr (Qe rfl rfl) ⟨Below.refl _ _, rfl⟩
                refine Qa.cons (fun Wd hd => ?_) ?_
                .
                  exact DR.mono (ZT rfl Tryz.func106 rfl rfl rfl ((show CV _ _ [_, _, _, _] _ (fun v _ => v = .int .u64 (UY (Qb (Qg zs k) (k + 16 - 2)))) from V5 (U6 (Qb (Qg zs k) (k + 16 - 2)) 17 19 10 Wd (hsi2 _) (by decide) (by decide) (by decide))))) (fun v W' ⟨h, hb⟩ => ⟨hb, (by rw [h]; exact rfl)⟩)
                refine Qa.cons (fun Wd hd => ?_) ?_
                .
                  exact DV.dr (QW rfl rfl rfl (Q9 _)) ⟨Below.refl _ _, rfl⟩
                refine Qa.cons (fun Wd hd => ?_) ?_
                .
                  exact DV.dr (Qe rfl rfl) ⟨Below.refl _ _, rfl⟩
                refine Qa.cons (fun Wd hd => ?_) ?_
                .
                  exact DR.mono (ZT rfl Tryz.func105 rfl rfl rfl ((show CV _ _ [_, _] _ (fun v _ => v = .int .u64 (YM (Qg zs k) (16 + k))) from CV.mono (Yy (Zx ((((Qb (Qg zs k) (k + 16 - 16) + VD (Qb (Qg zs k) (k + 16 - 15))) % 18446744073709551616 + Qb (Qg zs k) (k + 16 - 7)) % 18446744073709551616 + UY (Qb (Qg zs k) (k + 16 - 2))) % 18446744073709551616) Wd (Y5 _))) fun v _ _ h => h.trans (congrArg (Value.int .u64) (show (((Qb (Qg zs k) (k + 16 - 16) + VD (Qb (Qg zs k) (k + 16 - 15))) % 18446744073709551616 + Qb (Qg zs k) (k + 16 - 7)) % 18446744073709551616 + UY (Qb (Qg zs k) (k + 16 - 2))) % 18446744073709551616 % 4294967296 = YM (Qg zs k) (16 + k) from by rw [show 16 + k = k + 16 from Nat.add_comm _ _]; exact Qfp (Qg zs k) (k + 16) _ _ _ _ rfl rfl rfl rfl))))) (fun v W' ⟨h, hb⟩ => ⟨hb, (by rw [h]; exact rfl)⟩)
                exact trivial
              .
                intro W118 b119
                replace hT := hT.below b119
                replace hA := hA.below b119
                replace k10 := k10.below b119
                replace k64 := k64.below b119
                replace k91 := k91.below b119
                replace hB := Qk hB b119
                replace hL := LL.below hL b119
                refine WL.val (Qm (o1 := (k + 16)) rfl Tryz.underlying125 Qd rfl rfl (by omega) (by first | (simp; done) | omega)) rfl rfl ?_
                refine WL.do (Xr (cs' := Q6 ((Qg zs k).set (k + 16) (YM (Qg zs k) (16 + k)))) (vs := [.int .u64 (YM (Qg zs k) (16 + k))]) rfl Qd rfl rfl rfl (Qx rfl Yc) k91 rfl (by rw [X8, show (Qg zs k).length = 80 from (XA _ _)]; exact (by omega)) (QaN (by rw [show (Qg zs k).length = 80 from (XA _ _)]; exact (by omega)))) rfl ?_
                rintro _ W120 ⟨k122, o121⟩
                replace k10 := k10.other o121 n94
                replace k64 := k64.other o121 n95
                clear k91
                replace hT := hT.only o121 (.head _)
                replace hA := hA.only o121 (.head _)
                replace hB := o121.below hB l96
                replace hL := LL.only hL o121
                refine WL.nil ?_
                refine hK117 ?_
                refine WC.region ?_
                refine WL.val (Qe rfl rfl) rfl rfl ?_
                refine WL.val (QW (r := ((k + 1 + 16 : Nat) : Int)) rfl rfl rfl (by rw [QD (by omega)]; omega)) rfl rfl ?_
                refine WL.val (Qi rfl rfl) rfl rfl ?_
                refine WL.nil ?_
                replace k122 : Q8 W120 W84.heap.size (Q6 (Qg zs (k + 1))) := by rw [show k + 16 = 16 + k from Nat.add_comm _ _] at k122; exact k122
                exact hK112 (k + 1) ⟨(by omega), hB, hL, hT, hA, k10, k64, k122⟩ (by omega) (by repeat first | exact trivial | exact And.intro rfl trivial | refine And.intro rfl ?_ | refine And.intro (congrArg (fun z : Int => some (Value.int .i64 z)) (by omega)) ?_ | refine And.intro (congrArg (fun z : Bool => some (Value.bool z)) (by first | exact (decide_eq_true (by omega)).symm | exact (decide_eq_false (by omega)).symm)) ?_)
            .
              replace c116 := of_decide_eq_false c116
              refine WC.exit ?_
              refine hK110 ?_
              refine WC.seq fun K123 hK123 => ?_
              refine WC.region ?_
              refine WL.val (Zk rfl G4 rfl k64.range (by rw [X8]; exact hsl)) rfl rfl ?_
              refine WL.get (Z0 (cs := Q6 (List.replicate 8 0)) rfl UI Gj) rfl rfl ?_
              rintro _ W124 ⟨rfl, k125, b126, z127⟩
              have n128 : w.heap.size ≠ W113.heap.size := Nat.ne_of_lt k10.lt
              have n129 : W49.heap.size ≠ W113.heap.size := Nat.ne_of_lt k64.lt
              have n130 : W84.heap.size ≠ W113.heap.size := Nat.ne_of_lt k91.lt
              have l131 := hB.size
              replace hT := hT.more b126 (Nat.le_refl _)
              replace hA := hA.more b126 (Nat.le_refl _)
              replace k10 := k10.below b126
              replace k64 := k64.below b126
              replace k91 := k91.below b126
              replace hB := Qk hB b126
              replace hL := LL.more hL z127
              refine WL.do (EV (vs := (Q6 st)) rfl Y9 rfl rfl rfl (Qmp st) k125 (by rw [X8]; exact hsl) (by rw [X8, List.length_replicate])) rfl ?_
              rintro _ W132 ⟨k134, o133⟩
              replace k10 := k10.other o133 n128
              replace k64 := k64.other o133 n129
              replace k91 := k91.other o133 n130
              clear k125
              replace hT := hT.only o133 (.head _)
              replace hA := hA.only o133 (.head _)
              replace hB := o133.below hB l131
              replace hL := LL.only hL o133
              refine WL.nil ?_
              refine hK123 ?_
              refine WC.seq fun K135 hK135 => ?_
              refine WC.seq fun K136 hK136 => ?_
              refine WC.region ?_
              refine WL.val (Qi rfl rfl) rfl rfl ?_
              refine WL.nil ?_
              refine hK136 ?_
              refine WC.block ?_
              have hks : k = 48 := by omega
              subst hks
              replace k134 : Q8 W132 W113.heap.size [.int .u64 (Qs (Qg zs 48) (QF st) 0).a, .int .u64 (Qs (Qg zs 48) (QF st) 0).b, .int .u64 (Qs (Qg zs 48) (QF st) 0).c, .int .u64 (Qs (Qg zs 48) (QF st) 0).d, .int .u64 (Qs (Qg zs 48) (QF st) 0).e, .int .u64 (Qs (Qg zs 48) (QF st) 0).f, .int .u64 (Qs (Qg zs 48) (QF st) 0).g, .int .u64 (Qs (Qg zs 48) (QF st) 0).h] := by rw [Qku hsl] at k134; exact k134
              have hok := VY (m := Qg zs 48) (Qc7 hsi)
              refine WC.loop (fun (i : Nat) => [(1, .int .i64 32), (5, .pointer (some ⟨w.heap.size, 0, none⟩)), (6, .int .i64 64), (7, ov2), (10, .pointer (some ⟨W49.heap.size, 0, none⟩)), (12, .int .i64 4), (13, .int .i64 ((q * 64 : Nat) : Int)), (14, .pointer (some ⟨W84.heap.size, 0, none⟩)), (17, .pointer (some ⟨W113.heap.size, 0, none⟩)), (18, .int .i64 (i : Int))]) (fun (i : Nat) W => i <= 64 /\ Below w.heap.size w W /\ LL (W113.heap.size :: W84.heap.size :: W49.heap.size :: w.heap.size :: L) W /\ ZJ (W113.heap.size :: W84.heap.size :: W49.heap.size :: w.heap.size :: L) W /\ Zh 1 (W113.heap.size :: W84.heap.size :: W49.heap.size :: w.heap.size :: L) W ov2 ((Xu D).map e8) /\ Q8 W w.heap.size [.int .i64 2, .int .i64 13, .int .i64 22, .int .i64 6, .int .i64 11, .int .i64 25, .int .i64 7, .int .i64 18, .int .i64 3, .int .i64 17, .int .i64 19, .int .i64 10] /\ Q8 W W49.heap.size (Q6 st) /\ Q8 W W84.heap.size (Q6 (Qg zs 48)) /\ Q8 W W113.heap.size [.int .u64 ((Qs (Qg zs 48) (QF st) i).a), .int .u64 ((Qs (Qg zs 48) (QF st) i).b), .int .u64 ((Qs (Qg zs 48) (QF st) i).c), .int .u64 ((Qs (Qg zs 48) (QF st) i).d), .int .u64 ((Qs (Qg zs 48) (QF st) i).e), .int .u64 ((Qs (Qg zs 48) (QF st) i).f), .int .u64 ((Qs (Qg zs 48) (QF st) i).g), .int .u64 ((Qs (Qg zs 48) (QF st) i).h)]) (fun (i : Nat) => 64 - i) 0 (by repeat first | exact trivial | exact And.intro rfl trivial | refine And.intro rfl ?_ | refine And.intro (congrArg (fun z : Int => some (Value.int .i64 z)) (by omega)) ?_ | refine And.intro (congrArg (fun z : Bool => some (Value.bool z)) (by first | exact (decide_eq_true (by omega)).symm | exact (decide_eq_false (by omega)).symm)) ?_) ⟨Nat.zero_le _, hB, hL, hT, hA, k10, k64, k91, k134⟩ ?_
              clear hT hA k10 k64 k91 k134 hB hL
              rintro K137 i W138 ⟨hi, hB, hL, hT, hA, k10, k64, k91, k134⟩ hK137
              obtain ⟨ev, hev⟩ : ∃ e, e = (Qs (Qg zs 48) (QF st) i) := ⟨_, rfl⟩
              rw [<- hev] at k134
              have hokv := hok i
              rw [<- hev] at hokv
              refine WC.seq fun K139 hK139 => ?_
              refine WC.seq fun K140 hK140 => ?_
              refine WC.region ?_
              refine WL.val (Qe rfl rfl) rfl rfl ?_
              refine WL.val (Qe rfl rfl) rfl rfl ?_
              refine WL.val (ZF rfl rfl rfl) rfl rfl ?_
              refine WL.nil ?_
              refine hK140 ?_
              refine WC.cond rfl (fun c141 => ?_) (fun c141 => ?_)
              .
                replace c141 := of_decide_eq_true c141
                refine WC.skip ?_
                refine hK139 ?_
                refine WC.seq fun K142 hK142 => ?_
                refine WC.block ?_
                refine WC.seq fun K143 hK143 => ?_
                refine WC.drawM 35 ((some 158, .is (.pointer (some ⟨W113.heap.size, 7, none⟩))) :: (some 159, .is (.int .u64 ev.h)) :: (some 160, .is (.pointer (some ⟨W113.heap.size, 4, none⟩))) :: (some 161, .is (.int .u64 ev.e)) :: (some 162, .is (.pointer (some ⟨w.heap.size, 3, none⟩))) :: (some 163, .is (.agg #[.int .i64 6, .int .i64 11, .int .i64 25])) :: (some 164, .is (.int .i64 32)) :: (some 165, .is (.int .u64 (VN ev.e))) :: (some 166, .is (.int .u64 ((ev.h + VN ev.e) % 18446744073709551616))) :: (some 167, .is (.pointer (some ⟨W113.heap.size, 4, none⟩))) :: (some 168, .is (.int .u64 ev.e)) :: (some 169, .is (.pointer (some ⟨W113.heap.size, 5, none⟩))) :: (some 170, .is (.int .u64 ev.f)) :: (some 171, .is (.int .u64 (bits BinOp.and .u64 ev.e ev.f))) :: (some 172, .is (.pointer (some ⟨W113.heap.size, 4, none⟩))) :: (some 173, .is (.int .u64 ev.e)) :: (some 174, .is (.int .u64 (X0 ev.e))) :: (some 175, .is (.pointer (some ⟨W113.heap.size, 6, none⟩))) :: (some 176, .is (.int .u64 ev.g)) :: (some 177, .is (.int .u64 (bits BinOp.and .u64 (X0 ev.e) ev.g))) :: (some 178, .is (.int .u64 (bits BinOp.xor .u64 (bits BinOp.and .u64 ev.e ev.f) (bits BinOp.and .u64 (X0 ev.e) ev.g)))) :: (some 179, .is (.int .u64 (((ev.h + VN ev.e) % 18446744073709551616 + bits BinOp.xor .u64 (bits BinOp.and .u64 ev.e ev.f) (bits BinOp.and .u64 (X0 ev.e) ev.g)) % 18446744073709551616))) :: (some 180, .is (.int .i64 (i : Int))) :: (some 181, .is (.pointer (some ⟨3, i, none⟩))) :: (some 182, .is (.int .u64 (Qb Q7 i))) :: (some 183, .is (.int .i64 32)) :: (some 184, .is (.int .i64 32)) :: (some 185, .is (.int .u64 32)) :: (some 186, .is (.int .u64 (Qb Q7 i / 4294967296))) :: (some 187, .is (.int .u64 ((((ev.h + VN ev.e) % 18446744073709551616 + bits BinOp.xor .u64 (bits BinOp.and .u64 ev.e ev.f) (bits BinOp.and .u64 (X0 ev.e) ev.g)) % 18446744073709551616 + Qb Q7 i / 4294967296) % 18446744073709551616))) :: (some 188, .is (.int .i64 (i : Int))) :: (some 189, .is (.pointer (some ⟨W84.heap.size, i, none⟩))) :: (some 190, .is (.int .u64 (Qb (Qg zs 48) i))) :: (some 191, .is (.int .u64 (((((ev.h + VN ev.e) % 18446744073709551616 + bits BinOp.xor .u64 (bits BinOp.and .u64 ev.e ev.f) (bits BinOp.and .u64 (X0 ev.e) ev.g)) % 18446744073709551616 + Qb Q7 i / 4294967296) % 18446744073709551616 + Qb (Qg zs 48) i) % 18446744073709551616))) :: (some 192, .is (.int .i64 32)) :: []) [[], [0], [], [2], [], [4], [], [3, 5, 6], [1, 7], [], [9], [], [11], [10, 12], [], [14], [15], [], [17], [16, 18], [13, 19], [8, 20], [], [22], [23], [], [25], [26], [24, 27], [21, 28], [], [30], [31], [29, 32], []] (by kernel_rfl) (by kernel_rfl) (by kernel_rfl) (by kernel_rfl) (by kernel_rfl) (by kernel_rfl) (by kernel_rfl) (by exact trivial) ?_ ?_
                .
                  refine Qa.cons (fun Wd hd => ?_) ?_
                  .
                    exact DV.dr (Qm (o1 := 7) rfl Tryz.underlying68 Qd rfl rfl (by decide) rfl) ⟨Below.refl _ _, rfl⟩
                  refine Qa.cons (fun Wd hd => ?_) ?_
                  .
                    have k134 := k134.below hd
                    exact DV.dr (Qv rfl Ql rfl (k134.cell (k := 7) rfl)) ⟨Below.refl _ _, rfl⟩
                  refine Qa.cons (fun Wd hd => ?_) ?_
                  .
                    exact DV.dr (Qm (o1 := 4) rfl Tryz.underlying68 Qd rfl rfl (by decide) rfl) ⟨Below.refl _ _, rfl⟩
                  refine Qa.cons (fun Wd hd => ?_) ?_
                  .
                    have k134 := k134.below hd
                    exact DV.dr (Qv rfl Ql rfl (k134.cell (k := 4) rfl)) ⟨Below.refl _ _, rfl⟩
                  refine Qa.cons (fun Wd hd => ?_) ?_
                  .
                    exact DV.dr (Qm (o1 := 3) rfl Tryz.underlying123 XP rfl rfl (by decide) rfl) ⟨Below.refl _ _, rfl⟩
                  refine Qa.cons (fun Wd hd => ?_) ?_
                  .
                    have k10 := k10.below hd
                    exact DV.dr (Zk (cs := [.int .i64 6, .int .i64 11, .int .i64 25]) rfl X5 rfl (k10.part 3 3) rfl) ⟨Below.refl _ _, rfl⟩
                  refine Qa.cons (fun Wd hd => ?_) ?_
                  .
                    exact DV.dr (Qe rfl rfl) ⟨Below.refl _ _, rfl⟩
                  refine Qa.cons (fun Wd hd => ?_) ?_
                  .
                    exact DR.mono (ZT rfl Tryz.func106 rfl rfl rfl ((show CV _ _ [_, _, _, _] _ (fun v _ => v = .int .u64 (VN ev.e)) from V5 (Up ev.e 6 11 25 Wd hokv.2.2.2.2.1 (by decide) (by decide) (by decide))))) (fun v W' ⟨h, hb⟩ => ⟨hb, (by rw [h]; exact rfl)⟩)
                  refine Qa.cons (fun Wd hd => ?_) ?_
                  .
                    exact DV.dr (QW rfl rfl rfl (Q9 _)) ⟨Below.refl _ _, rfl⟩
                  refine Qa.cons (fun Wd hd => ?_) ?_
                  .
                    exact DV.dr (Qm (o1 := 4) rfl Tryz.underlying68 Qd rfl rfl (by decide) rfl) ⟨Below.refl _ _, rfl⟩
                  refine Qa.cons (fun Wd hd => ?_) ?_
                  .
                    have k134 := k134.below hd
                    exact DV.dr (Qv rfl Ql rfl (k134.cell (k := 4) rfl)) ⟨Below.refl _ _, rfl⟩
                  refine Qa.cons (fun Wd hd => ?_) ?_
                  .
                    exact DV.dr (Qm (o1 := 5) rfl Tryz.underlying68 Qd rfl rfl (by decide) rfl) ⟨Below.refl _ _, rfl⟩
                  refine Qa.cons (fun Wd hd => ?_) ?_
                  .
                    have k134 := k134.below hd
                    exact DV.dr (Qv rfl Ql rfl (k134.cell (k := 5) rfl)) ⟨Below.refl _ _, rfl⟩
                  refine Qa.cons (fun Wd hd => ?_) ?_
                  .
                    exact DV.dr (ZG (r := bits BinOp.and .u64 ev.e ev.f) rfl rfl rfl rfl) ⟨Below.refl _ _, rfl⟩
                  refine Qa.cons (fun Wd hd => ?_) ?_
                  .
                    exact DV.dr (Qm (o1 := 4) rfl Tryz.underlying68 Qd rfl rfl (by decide) rfl) ⟨Below.refl _ _, rfl⟩
                  refine Qa.cons (fun Wd hd => ?_) ?_
                  .
                    have k134 := k134.below hd
                    exact DV.dr (Qv rfl Ql rfl (k134.cell (k := 4) rfl)) ⟨Below.refl _ _, rfl⟩
                  refine Qa.cons (fun Wd hd => ?_) ?_
                  .
                    exact DV.dr (QhL rfl rfl) ⟨Below.refl _ _, rfl⟩
                  refine Qa.cons (fun Wd hd => ?_) ?_
                  .
                    exact DV.dr (Qm (o1 := 6) rfl Tryz.underlying68 Qd rfl rfl (by decide) rfl) ⟨Below.refl _ _, rfl⟩
                  refine Qa.cons (fun Wd hd => ?_) ?_
                  .
                    have k134 := k134.below hd
                    exact DV.dr (Qv rfl Ql rfl (k134.cell (k := 6) rfl)) ⟨Below.refl _ _, rfl⟩
                  refine Qa.cons (fun Wd hd => ?_) ?_
                  .
                    exact DV.dr (ZG (r := bits BinOp.and .u64 (X0 ev.e) ev.g) rfl rfl rfl rfl) ⟨Below.refl _ _, rfl⟩
                  refine Qa.cons (fun Wd hd => ?_) ?_
                  .
                    exact DV.dr (VJ (r := bits BinOp.xor .u64 (bits BinOp.and .u64 ev.e ev.f) (bits BinOp.and .u64 (X0 ev.e) ev.g)) rfl rfl rfl rfl) ⟨Below.refl _ _, rfl⟩
                  refine Qa.cons (fun Wd hd => ?_) ?_
                  .
                    exact DV.dr (QW rfl rfl rfl (Q9 _)) ⟨Below.refl _ _, rfl⟩
                  refine Qa.cons (fun Wd hd => ?_) ?_
                  .
                    exact DV.dr (Qe rfl rfl) ⟨Below.refl _ _, rfl⟩
                  refine Qa.cons (fun Wd hd => ?_) ?_
                  .
                    exact DV.dr (Qm (o1 := i) rfl Tryz.underlying125 Qd rfl rfl (by omega) (by first | (simp; done) | omega)) ⟨Below.refl _ _, rfl⟩
                  refine Qa.cons (fun Wd hd => ?_) ?_
                  .
                    have hT := hT.below hd
                    exact DV.dr (Qv rfl Ql rfl (hT.1.ro i (by omega))) ⟨Below.refl _ _, rfl⟩
                  refine Qa.cons (fun Wd hd => ?_) ?_
                  .
                    exact DV.dr (Qe rfl rfl) ⟨Below.refl _ _, rfl⟩
                  refine Qa.cons (fun Wd hd => ?_) ?_
                  .
                    exact DV.dr (X2 (r := 32) rfl rfl rfl (by decide)) ⟨Below.refl _ _, rfl⟩
                  refine Qa.cons (fun Wd hd => ?_) ?_
                  .
                    exact DV.dr (XZ (r := 32) rfl Tryz.underlying3 Tryz.underlying75 rfl (by decide)) ⟨Below.refl _ _, rfl⟩
                  refine Qa.cons (fun Wd hd => ?_) ?_
                  .
                    exact DV.dr (Jw (r := Qb Q7 i / 4294967296) rfl rfl rfl (by decide) (by decide) rfl) ⟨Below.refl _ _, rfl⟩
                  refine Qa.cons (fun Wd hd => ?_) ?_
                  .
                    exact DV.dr (QW rfl rfl rfl (Q9 _)) ⟨Below.refl _ _, rfl⟩
                  refine Qa.cons (fun Wd hd => ?_) ?_
                  .
                    exact DV.dr (Qe rfl rfl) ⟨Below.refl _ _, rfl⟩
                  refine Qa.cons (fun Wd hd => ?_) ?_
                  .
                    exact DV.dr (Qm (o1 := i) rfl Tryz.underlying125 Qd rfl rfl (by omega) (by first | (simp; done) | omega)) ⟨Below.refl _ _, rfl⟩
                  refine Qa.cons (fun Wd hd => ?_) ?_
                  .
                    have k91 := k91.below hd
                    exact DV.dr (Qv rfl Ql rfl (k91.cell (k := i) (YG (by rw [show (Qg zs 48).length = 80 from (XA _ _)]; exact (by omega))))) ⟨Below.refl _ _, rfl⟩
                  refine Qa.cons (fun Wd hd => ?_) ?_
                  .
                    exact DV.dr (QW rfl rfl rfl (Q9 _)) ⟨Below.refl _ _, rfl⟩
                  refine Qa.cons (fun Wd hd => ?_) ?_
                  .
                    exact DV.dr (Qe rfl rfl) ⟨Below.refl _ _, rfl⟩
                  exact trivial
                .
                  intro W144 b145
                  replace hT := hT.below b145
                  replace hA := hA.below b145
                  replace k10 := k10.below b145
                  replace k64 := k64.below b145
                  replace k91 := k91.below b145
                  replace k134 := k134.below b145
                  replace hB := Qk hB b145
                  replace hL := LL.below hL b145
                  refine WL.get (ZT rfl Tryz.func105 rfl rfl rfl ((show CV _ _ [_, _] _ (fun v _ => v = .int .u64 (YE (Qg zs 48) i ev)) from CV.mono (Yy (Zx (((((ev.h + VN ev.e) % 18446744073709551616 + bits BinOp.xor .u64 (bits BinOp.and .u64 ev.e ev.f) (bits BinOp.and .u64 (X0 ev.e) ev.g)) % 18446744073709551616 + Qb Q7 i / 4294967296) % 18446744073709551616 + Qb (Qg zs 48) i) % 18446744073709551616) W144 (Y5 _))) fun v _ _ h => h.trans (congrArg (Value.int .u64) (show ((((ev.h + VN ev.e) % 18446744073709551616 + bits BinOp.xor .u64 (bits BinOp.and .u64 ev.e ev.f) (bits BinOp.and .u64 (X0 ev.e) ev.g)) % 18446744073709551616 + Qb Q7 i / 4294967296) % 18446744073709551616 + Qb (Qg zs 48) i) % 18446744073709551616 % 4294967296 = YE (Qg zs 48) i ev from QkO (Qg zs 48) i ev hokv))))) rfl rfl ?_
                  rintro _ W147 ⟨rfl, b146⟩
                  replace hT := hT.below b146
                  replace hA := hA.below b146
                  replace k10 := k10.below b146
                  replace k64 := k64.below b146
                  replace k91 := k91.below b146
                  replace k134 := k134.below b146
                  replace hB := Qk hB b146
                  replace hL := LL.below hL b146
                  refine WL.val (Qi rfl rfl) rfl rfl ?_
                  refine WL.nil ?_
                  refine hK143 ?_
                  refine WC.seq fun K148 hK148 => ?_
                  refine WC.drawM 25 [(some 194, .is (.pointer (some ⟨W113.heap.size, 0, none⟩))), (some 195, .is (.int .u64 ev.a)), (some 196, .is (.pointer (some ⟨w.heap.size, 0, none⟩))), (some 197, .is (.agg #[.int .i64 2, .int .i64 13, .int .i64 22])), (some 198, .is (.int .i64 32)), (some 199, .is (.int .u64 (JE ev.a))), (some 200, .is (.pointer (some ⟨W113.heap.size, 0, none⟩))), (some 201, .is (.int .u64 ev.a)), (some 202, .is (.pointer (some ⟨W113.heap.size, 1, none⟩))), (some 203, .is (.int .u64 ev.b)), (some 204, .is (.int .u64 (bits BinOp.and .u64 ev.a ev.b))), (some 205, .is (.pointer (some ⟨W113.heap.size, 0, none⟩))), (some 206, .is (.int .u64 ev.a)), (some 207, .is (.pointer (some ⟨W113.heap.size, 2, none⟩))), (some 208, .is (.int .u64 ev.c)), (some 209, .is (.int .u64 (bits BinOp.and .u64 ev.a ev.c))), (some 210, .is (.int .u64 (bits BinOp.xor .u64 (bits BinOp.and .u64 ev.a ev.b) (bits BinOp.and .u64 ev.a ev.c)))), (some 211, .is (.pointer (some ⟨W113.heap.size, 1, none⟩))), (some 212, .is (.int .u64 ev.b)), (some 213, .is (.pointer (some ⟨W113.heap.size, 2, none⟩))), (some 214, .is (.int .u64 ev.c)), (some 215, .is (.int .u64 (bits BinOp.and .u64 ev.b ev.c))), (some 216, .is (.int .u64 (bits BinOp.xor .u64 (bits BinOp.xor .u64 (bits BinOp.and .u64 ev.a ev.b) (bits BinOp.and .u64 ev.a ev.c)) (bits BinOp.and .u64 ev.b ev.c)))), (some 217, .is (.int .u64 ((JE ev.a + bits BinOp.xor .u64 (bits BinOp.xor .u64 (bits BinOp.and .u64 ev.a ev.b) (bits BinOp.and .u64 ev.a ev.c)) (bits BinOp.and .u64 ev.b ev.c)) % 18446744073709551616))), (some 218, .is (.int .i64 32))] [[], [0], [], [2], [], [1, 3, 4], [], [6], [], [8], [7, 9], [], [11], [], [13], [12, 14], [10, 15], [], [17], [], [19], [18, 20], [16, 21], [5, 22], []] (by kernel_rfl) (by kernel_rfl) (by kernel_rfl) (by kernel_rfl) (by kernel_rfl) (by kernel_rfl) (by kernel_rfl) (by exact trivial) ?_ ?_
                  .
                    refine Qa.cons (fun Wd hd => ?_) ?_
                    .
                      exact DV.dr (Qm (o1 := 0) rfl Tryz.underlying68 Qd rfl rfl (by decide) rfl) ⟨Below.refl _ _, rfl⟩
                    refine Qa.cons (fun Wd hd => ?_) ?_
                    .
                      have k134 := k134.below hd
                      exact DV.dr (Qv rfl Ql rfl (k134.cell (k := 0) rfl)) ⟨Below.refl _ _, rfl⟩
                    refine Qa.cons (fun Wd hd => ?_) ?_
                    .
                      exact DV.dr (Qm (o1 := 0) rfl Tryz.underlying123 XP rfl rfl (by decide) rfl) ⟨Below.refl _ _, rfl⟩
                    refine Qa.cons (fun Wd hd => ?_) ?_
                    .
                      have k10 := k10.below hd
                      exact DV.dr (Zk (cs := [.int .i64 2, .int .i64 13, .int .i64 22]) rfl X5 rfl (k10.part 0 3) rfl) ⟨Below.refl _ _, rfl⟩
                    refine Qa.cons (fun Wd hd => ?_) ?_
                    .
                      exact DV.dr (Qe rfl rfl) ⟨Below.refl _ _, rfl⟩
                    refine Qa.cons (fun Wd hd => ?_) ?_
                    .
                      exact DR.mono (ZT rfl Tryz.func106 rfl rfl rfl ((show CV _ _ [_, _, _, _] _ (fun v _ => v = .int .u64 (JE ev.a)) from V5 (Up ev.a 2 13 22 Wd hokv.1 (by decide) (by decide) (by decide))))) (fun v W' ⟨h, hb⟩ => ⟨hb, (by rw [h]; exact rfl)⟩)
                    refine Qa.cons (fun Wd hd => ?_) ?_
                    .
                      exact DV.dr (Qm (o1 := 0) rfl Tryz.underlying68 Qd rfl rfl (by decide) rfl) ⟨Below.refl _ _, rfl⟩
                    refine Qa.cons (fun Wd hd => ?_) ?_
                    .
                      have k134 := k134.below hd
                      exact DV.dr (Qv rfl Ql rfl (k134.cell (k := 0) rfl)) ⟨Below.refl _ _, rfl⟩
                    refine Qa.cons (fun Wd hd => ?_) ?_
                    .
                      exact DV.dr (Qm (o1 := 1) rfl Tryz.underlying68 Qd rfl rfl (by decide) rfl) ⟨Below.refl _ _, rfl⟩
                    refine Qa.cons (fun Wd hd => ?_) ?_
                    .
                      have k134 := k134.below hd
                      exact DV.dr (Qv rfl Ql rfl (k134.cell (k := 1) rfl)) ⟨Below.refl _ _, rfl⟩
                    refine Qa.cons (fun Wd hd => ?_) ?_
                    .
                      exact DV.dr (ZG (r := bits BinOp.and .u64 ev.a ev.b) rfl rfl rfl rfl) ⟨Below.refl _ _, rfl⟩
                    refine Qa.cons (fun Wd hd => ?_) ?_
                    .
                      exact DV.dr (Qm (o1 := 0) rfl Tryz.underlying68 Qd rfl rfl (by decide) rfl) ⟨Below.refl _ _, rfl⟩
                    refine Qa.cons (fun Wd hd => ?_) ?_
                    .
                      have k134 := k134.below hd
                      exact DV.dr (Qv rfl Ql rfl (k134.cell (k := 0) rfl)) ⟨Below.refl _ _, rfl⟩
                    refine Qa.cons (fun Wd hd => ?_) ?_
                    .
                      exact DV.dr (Qm (o1 := 2) rfl Tryz.underlying68 Qd rfl rfl (by decide) rfl) ⟨Below.refl _ _, rfl⟩
                    refine Qa.cons (fun Wd hd => ?_) ?_
                    .
                      have k134 := k134.below hd
                      exact DV.dr (Qv rfl Ql rfl (k134.cell (k := 2) rfl)) ⟨Below.refl _ _, rfl⟩
                    refine Qa.cons (fun Wd hd => ?_) ?_
                    .
                      exact DV.dr (ZG (r := bits BinOp.and .u64 ev.a ev.c) rfl rfl rfl rfl) ⟨Below.refl _ _, rfl⟩
                    refine Qa.cons (fun Wd hd => ?_) ?_
                    .
                      exact DV.dr (VJ (r := bits BinOp.xor .u64 (bits BinOp.and .u64 ev.a ev.b) (bits BinOp.and .u64 ev.a ev.c)) rfl rfl rfl rfl) ⟨Below.refl _ _, rfl⟩
                    refine Qa.cons (fun Wd hd => ?_) ?_
                    .
                      exact DV.dr (Qm (o1 := 1) rfl Tryz.underlying68 Qd rfl rfl (by decide) rfl) ⟨Below.refl _ _, rfl⟩
                    refine Qa.cons (fun Wd hd => ?_) ?_
                    .
                      have k134 := k134.below hd
                      exact DV.dr (Qv rfl Ql rfl (k134.cell (k := 1) rfl)) ⟨Below.refl _ _, rfl⟩
                    refine Qa.cons (fun Wd hd => ?_) ?_
                    .
                      exact DV.dr (Qm (o1 := 2) rfl Tryz.underlying68 Qd rfl rfl (by decide) rfl) ⟨Below.refl _ _, rfl⟩
                    refine Qa.cons (fun Wd hd => ?_) ?_
                    .
                      have k134 := k134.below hd
                      exact DV.dr (Qv rfl Ql rfl (k134.cell (k := 2) rfl)) ⟨Below.refl _ _, rfl⟩
                    refine Qa.cons (fun Wd hd => ?_) ?_
                    .
                      exact DV.dr (ZG (r := bits BinOp.and .u64 ev.b ev.c) rfl rfl rfl rfl) ⟨Below.refl _ _, rfl⟩
                    refine Qa.cons (fun Wd hd => ?_) ?_
                    .
                      exact DV.dr (VJ (r := bits BinOp.xor .u64 (bits BinOp.xor .u64 (bits BinOp.and .u64 ev.a ev.b) (bits BinOp.and .u64 ev.a ev.c)) (bits BinOp.and .u64 ev.b ev.c)) rfl rfl rfl rfl) ⟨Below.refl _ _, rfl⟩
                    refine Qa.cons (fun Wd hd => ?_) ?_
                    .
                      exact DV.dr (QW rfl rfl rfl (Q9 _)) ⟨Below.refl _ _, rfl⟩
                    refine Qa.cons (fun Wd hd => ?_) ?_
                    .
                      exact DV.dr (Qe rfl rfl) ⟨Below.refl _ _, rfl⟩
                    exact trivial
                  .
                    intro W149 b150
                    replace hT := hT.below b150
                    replace hA := hA.below b150
                    replace k10 := k10.below b150
                    replace k64 := k64.below b150
                    replace k91 := k91.below b150
                    replace k134 := k134.below b150
                    replace hB := Qk hB b150
                    replace hL := LL.below hL b150
                    refine WL.get (ZT rfl Tryz.func105 rfl rfl rfl ((show CV _ _ [_, _] _ (fun v _ => v = .int .u64 (JZ ev)) from CV.mono (Yy (Zx ((JE ev.a + bits BinOp.xor .u64 (bits BinOp.xor .u64 (bits BinOp.and .u64 ev.a ev.b) (bits BinOp.and .u64 ev.a ev.c)) (bits BinOp.and .u64 ev.b ev.c)) % 18446744073709551616) W149 (Y5 _))) fun v _ _ h => h.trans (congrArg (Value.int .u64) (show (JE ev.a + bits BinOp.xor .u64 (bits BinOp.xor .u64 (bits BinOp.and .u64 ev.a ev.b) (bits BinOp.and .u64 ev.a ev.c)) (bits BinOp.and .u64 ev.b ev.c)) % 18446744073709551616 % 4294967296 = JZ ev from QkJ ev hokv))))) rfl rfl ?_
                    rintro _ W152 ⟨rfl, b151⟩
                    replace hT := hT.below b151
                    replace hA := hA.below b151
                    replace k10 := k10.below b151
                    replace k64 := k64.below b151
                    replace k91 := k91.below b151
                    replace k134 := k134.below b151
                    replace hB := Qk hB b151
                    replace hL := LL.below hL b151
                    refine WL.val (Qi rfl rfl) rfl rfl ?_
                    refine WL.nil ?_
                    refine hK148 ?_
                    refine WC.drawM 23 [(some 220, .is (.int .u64 (YE (Qg zs 48) i ev))), (some 221, .is (.int .u64 (JZ ev))), (some 222, .is (.int .u64 ((YE (Qg zs 48) i ev + JZ ev) % 18446744073709551616))), (some 223, .is (.int .i64 32)), (some 224, .is (.int .u64 ((YE (Qg zs 48) i ev + JZ ev) % 4294967296))), (some 225, .is (.pointer (some ⟨W113.heap.size, 0, none⟩))), (some 226, .is (.int .u64 ev.a)), (some 227, .is (.pointer (some ⟨W113.heap.size, 1, none⟩))), (some 228, .is (.int .u64 ev.b)), (some 229, .is (.pointer (some ⟨W113.heap.size, 2, none⟩))), (some 230, .is (.int .u64 ev.c)), (some 231, .is (.pointer (some ⟨W113.heap.size, 3, none⟩))), (some 232, .is (.int .u64 ev.d)), (some 233, .is (.int .u64 (YE (Qg zs 48) i ev))), (some 234, .is (.int .u64 ((ev.d + YE (Qg zs 48) i ev) % 18446744073709551616))), (some 235, .is (.int .i64 32)), (some 236, .is (.int .u64 ((ev.d + YE (Qg zs 48) i ev) % 4294967296))), (some 237, .is (.pointer (some ⟨W113.heap.size, 4, none⟩))), (some 238, .is (.int .u64 ev.e)), (some 239, .is (.pointer (some ⟨W113.heap.size, 5, none⟩))), (some 240, .is (.int .u64 ev.f)), (some 241, .is (.pointer (some ⟨W113.heap.size, 6, none⟩))), (some 242, .is (.int .u64 ev.g))] [[], [], [0, 1], [], [2, 3], [], [5], [], [7], [], [9], [], [11], [], [12, 13], [], [14, 15, 4], [], [17], [], [19], [], [21]] (by kernel_rfl) (by kernel_rfl) (by kernel_rfl) (by kernel_rfl) (by kernel_rfl) (by kernel_rfl) (by kernel_rfl) (by exact trivial) ?_ ?_
                    .
                      refine Qa.cons (fun Wd hd => ?_) ?_
                      .
                        exact DV.dr (Qe rfl rfl) ⟨Below.refl _ _, rfl⟩
                      refine Qa.cons (fun Wd hd => ?_) ?_
                      .
                        exact DV.dr (Qe rfl rfl) ⟨Below.refl _ _, rfl⟩
                      refine Qa.cons (fun Wd hd => ?_) ?_
                      .
                        exact DV.dr (QW rfl rfl rfl (Q9 _)) ⟨Below.refl _ _, rfl⟩
                      refine Qa.cons (fun Wd hd => ?_) ?_
                      .
                        exact DV.dr (Qe rfl rfl) ⟨Below.refl _ _, rfl⟩
                      refine Qa.cons (fun Wd hd => ?_) ?_
                      .
                        exact DR.mono (ZT rfl Tryz.func105 rfl rfl rfl ((show CV _ _ [_, _] _ (fun v _ => v = .int .u64 ((YE (Qg zs 48) i ev + JZ ev) % 4294967296)) from CV.mono (Yy (Zx ((YE (Qg zs 48) i ev + JZ ev) % 18446744073709551616) Wd (Y5 _))) fun v _ _ h => h.trans (congrArg (Value.int .u64) (show (YE (Qg zs 48) i ev + JZ ev) % 18446744073709551616 % 4294967296 = (YE (Qg zs 48) i ev + JZ ev) % 4294967296 from GT _ _))))) (fun v W' ⟨h, hb⟩ => ⟨hb, (by rw [h]; exact rfl)⟩)
                      refine Qa.cons (fun Wd hd => ?_) ?_
                      .
                        exact DV.dr (Qm (o1 := 0) rfl Tryz.underlying68 Qd rfl rfl (by decide) rfl) ⟨Below.refl _ _, rfl⟩
                      refine Qa.cons (fun Wd hd => ?_) ?_
                      .
                        have k134 := k134.below hd
                        exact DV.dr (Qv rfl Ql rfl (k134.cell (k := 0) rfl)) ⟨Below.refl _ _, rfl⟩
                      refine Qa.cons (fun Wd hd => ?_) ?_
                      .
                        exact DV.dr (Qm (o1 := 1) rfl Tryz.underlying68 Qd rfl rfl (by decide) rfl) ⟨Below.refl _ _, rfl⟩
                      refine Qa.cons (fun Wd hd => ?_) ?_
                      .
                        have k134 := k134.below hd
                        exact DV.dr (Qv rfl Ql rfl (k134.cell (k := 1) rfl)) ⟨Below.refl _ _, rfl⟩
                      refine Qa.cons (fun Wd hd => ?_) ?_
                      .
                        exact DV.dr (Qm (o1 := 2) rfl Tryz.underlying68 Qd rfl rfl (by decide) rfl) ⟨Below.refl _ _, rfl⟩
                      refine Qa.cons (fun Wd hd => ?_) ?_
                      .
                        have k134 := k134.below hd
                        exact DV.dr (Qv rfl Ql rfl (k134.cell (k := 2) rfl)) ⟨Below.refl _ _, rfl⟩
                      refine Qa.cons (fun Wd hd => ?_) ?_
                      .
                        exact DV.dr (Qm (o1 := 3) rfl Tryz.underlying68 Qd rfl rfl (by decide) rfl) ⟨Below.refl _ _, rfl⟩
                      refine Qa.cons (fun Wd hd => ?_) ?_
                      .
                        have k134 := k134.below hd
                        exact DV.dr (Qv rfl Ql rfl (k134.cell (k := 3) rfl)) ⟨Below.refl _ _, rfl⟩
                      refine Qa.cons (fun Wd hd => ?_) ?_
                      .
                        exact DV.dr (Qe rfl rfl) ⟨Below.refl _ _, rfl⟩
                      refine Qa.cons (fun Wd hd => ?_) ?_
                      .
                        exact DV.dr (QW rfl rfl rfl (Q9 _)) ⟨Below.refl _ _, rfl⟩
                      refine Qa.cons (fun Wd hd => ?_) ?_
                      .
                        exact DV.dr (Qe rfl rfl) ⟨Below.refl _ _, rfl⟩
                      refine Qa.cons (fun Wd hd => ?_) ?_
                      .
                        exact DR.mono (ZT rfl Tryz.func105 rfl rfl rfl ((show CV _ _ [_, _] _ (fun v _ => v = .int .u64 ((ev.d + YE (Qg zs 48) i ev) % 4294967296)) from CV.mono (Yy (Zx ((ev.d + YE (Qg zs 48) i ev) % 18446744073709551616) Wd (Y5 _))) fun v _ _ h => h.trans (congrArg (Value.int .u64) (show (ev.d + YE (Qg zs 48) i ev) % 18446744073709551616 % 4294967296 = (ev.d + YE (Qg zs 48) i ev) % 4294967296 from GT _ _))))) (fun v W' ⟨h, hb⟩ => ⟨hb, (by rw [h]; exact rfl)⟩)
                      refine Qa.cons (fun Wd hd => ?_) ?_
                      .
                        exact DV.dr (Qm (o1 := 4) rfl Tryz.underlying68 Qd rfl rfl (by decide) rfl) ⟨Below.refl _ _, rfl⟩
                      refine Qa.cons (fun Wd hd => ?_) ?_
                      .
                        have k134 := k134.below hd
                        exact DV.dr (Qv rfl Ql rfl (k134.cell (k := 4) rfl)) ⟨Below.refl _ _, rfl⟩
                      refine Qa.cons (fun Wd hd => ?_) ?_
                      .
                        exact DV.dr (Qm (o1 := 5) rfl Tryz.underlying68 Qd rfl rfl (by decide) rfl) ⟨Below.refl _ _, rfl⟩
                      refine Qa.cons (fun Wd hd => ?_) ?_
                      .
                        have k134 := k134.below hd
                        exact DV.dr (Qv rfl Ql rfl (k134.cell (k := 5) rfl)) ⟨Below.refl _ _, rfl⟩
                      refine Qa.cons (fun Wd hd => ?_) ?_
                      .
                        exact DV.dr (Qm (o1 := 6) rfl Tryz.underlying68 Qd rfl rfl (by decide) rfl) ⟨Below.refl _ _, rfl⟩
                      refine Qa.cons (fun Wd hd => ?_) ?_
                      .
                        have k134 := k134.below hd
                        exact DV.dr (Qv rfl Ql rfl (k134.cell (k := 6) rfl)) ⟨Below.refl _ _, rfl⟩
                      exact trivial
                    .
                      intro W153 b154
                      replace hT := hT.below b154
                      replace hA := hA.below b154
                      replace k10 := k10.below b154
                      replace k64 := k64.below b154
                      replace k91 := k91.below b154
                      replace k134 := k134.below b154
                      replace hB := Qk hB b154
                      replace hL := LL.below hL b154
                      refine WL.val (Xs rfl rfl (QkA _ _ _ _ _ _ _ _)) rfl rfl ?_
                      refine WL.do (Xr (cs' := [.int .u64 ((YE (Qg zs 48) i ev + JZ ev) % 4294967296), .int .u64 ev.a, .int .u64 ev.b, .int .u64 ev.c, .int .u64 ((ev.d + YE (Qg zs 48) i ev) % 4294967296), .int .u64 ev.e, .int .u64 ev.f, .int .u64 ev.g]) (vs := [.int .u64 ((YE (Qg zs 48) i ev + JZ ev) % 4294967296), .int .u64 ev.a, .int .u64 ev.b, .int .u64 ev.c, .int .u64 ((ev.d + YE (Qg zs 48) i ev) % 4294967296), .int .u64 ev.e, .int .u64 ev.f, .int .u64 ev.g]) rfl Y9 rfl rfl rfl (Qx rfl (Qx rfl (Qx rfl (Qx rfl (Qx rfl (Qx rfl (Qx rfl (Qx rfl Yc)))))))) k134 rfl (Nat.le_of_ble_eq_true rfl) rfl) rfl ?_
                      rintro _ W155 ⟨k157, o156⟩
                      replace k10 := k10.other o156 n128
                      replace k64 := k64.other o156 n129
                      replace k91 := k91.other o156 n130
                      clear k134
                      replace hT := hT.only o156 (.head _)
                      replace hA := hA.only o156 (.head _)
                      replace hB := o156.below hB l131
                      replace hL := LL.only hL o156
                      refine WL.nil ?_
                      refine hK142 ?_
                      refine WC.region ?_
                      refine WL.val (Qe rfl rfl) rfl rfl ?_
                      refine WL.val (QW (r := (i : Int) + 1) rfl rfl rfl (QD (by omega))) rfl rfl ?_
                      refine WL.val (Qi rfl rfl) rfl rfl ?_
                      refine WL.nil ?_
                      replace k157 : Q8 W155 W113.heap.size [.int .u64 (Qs (Qg zs 48) (QF st) (i + 1)).a, .int .u64 (Qs (Qg zs 48) (QF st) (i + 1)).b, .int .u64 (Qs (Qg zs 48) (QF st) (i + 1)).c, .int .u64 (Qs (Qg zs 48) (QF st) (i + 1)).d, .int .u64 (Qs (Qg zs 48) (QF st) (i + 1)).e, .int .u64 (Qs (Qg zs 48) (QF st) (i + 1)).f, .int .u64 (Qs (Qg zs 48) (QF st) (i + 1)).g, .int .u64 (Qs (Qg zs 48) (QF st) (i + 1)).h] := by show Q8 _ _ [.int .u64 (YV (Qg zs 48) i (Qs (Qg zs 48) (QF st) i)).a, .int .u64 (YV (Qg zs 48) i (Qs (Qg zs 48) (QF st) i)).b, .int .u64 (YV (Qg zs 48) i (Qs (Qg zs 48) (QF st) i)).c, .int .u64 (YV (Qg zs 48) i (Qs (Qg zs 48) (QF st) i)).d, .int .u64 (YV (Qg zs 48) i (Qs (Qg zs 48) (QF st) i)).e, .int .u64 (YV (Qg zs 48) i (Qs (Qg zs 48) (QF st) i)).f, .int .u64 (YV (Qg zs 48) i (Qs (Qg zs 48) (QF st) i)).g, .int .u64 (YV (Qg zs 48) i (Qs (Qg zs 48) (QF st) i)).h]; rw [<- hev]; exact k157
                      exact hK137 (i + 1) ⟨(by omega), hB, hL, hT, hA, k10, k64, k91, k157⟩ (by omega) (by repeat first | exact trivial | exact And.intro rfl trivial | refine And.intro rfl ?_ | refine And.intro (congrArg (fun z : Int => some (Value.int .i64 z)) (by omega)) ?_ | refine And.intro (congrArg (fun z : Bool => some (Value.bool z)) (by first | exact (decide_eq_true (by omega)).symm | exact (decide_eq_false (by omega)).symm)) ?_)
              .
                replace c141 := of_decide_eq_false c141
                refine WC.exit ?_
                refine hK135 ?_
                refine WC.seq fun K158 hK158 => ?_
                refine WC.region ?_
                refine WL.val (Qi rfl rfl) rfl rfl ?_
                refine WL.nil ?_
                refine hK158 ?_
                refine WC.block ?_
                have hi7 : i = 64 := by omega
                subst hi7
                replace k134 : Q8 W138 W113.heap.size (Q6 ev.list) := k134
                rw [hev] at k134
                replace k64 : Q8 W138 W49.heap.size (Q6 ((Xb st zs).take 0 ++ st.drop 0)) := by rw [List.take_zero, List.drop_zero, List.nil_append]; exact k64
                refine WC.loop (fun (i : Nat) => [(1, .int .i64 32), (5, .pointer (some ⟨w.heap.size, 0, none⟩)), (6, .int .i64 64), (7, ov2), (10, .pointer (some ⟨W49.heap.size, 0, none⟩)), (12, .int .i64 4), (13, .int .i64 ((q * 64 : Nat) : Int)), (17, .pointer (some ⟨W113.heap.size, 0, none⟩)), (21, .int .i64 (i : Int))]) (fun (i : Nat) W => i <= 8 /\ Below w.heap.size w W /\ LL (W113.heap.size :: W84.heap.size :: W49.heap.size :: w.heap.size :: L) W /\ ZJ (W113.heap.size :: W84.heap.size :: W49.heap.size :: w.heap.size :: L) W /\ Zh 1 (W113.heap.size :: W84.heap.size :: W49.heap.size :: w.heap.size :: L) W ov2 ((Xu D).map e8) /\ Q8 W w.heap.size [.int .i64 2, .int .i64 13, .int .i64 22, .int .i64 6, .int .i64 11, .int .i64 25, .int .i64 7, .int .i64 18, .int .i64 3, .int .i64 17, .int .i64 19, .int .i64 10] /\ Q8 W W49.heap.size (Q6 ((Xb st zs).take i ++ st.drop i)) /\ Q8 W W84.heap.size (Q6 (Qg zs 48)) /\ Q8 W W113.heap.size (Q6 ((Qs (Qg zs 48) (QF st) 64).list))) (fun (i : Nat) => 8 - i) 0 (by repeat first | exact trivial | exact And.intro rfl trivial | refine And.intro rfl ?_ | refine And.intro (congrArg (fun z : Int => some (Value.int .i64 z)) (by omega)) ?_ | refine And.intro (congrArg (fun z : Bool => some (Value.bool z)) (by first | exact (decide_eq_true (by omega)).symm | exact (decide_eq_false (by omega)).symm)) ?_) ⟨Nat.zero_le _, hB, hL, hT, hA, k10, k64, k91, k134⟩ ?_
                clear hT hA k10 k64 k91 k134 hB hL
                rintro K159 i W160 ⟨hi, hB, hL, hT, hA, k10, k64, k91, k134⟩ hK159
                refine WC.seq fun K161 hK161 => ?_
                refine WC.seq fun K162 hK162 => ?_
                refine WC.region ?_
                refine WL.val (Qe rfl rfl) rfl rfl ?_
                refine WL.val (ZF rfl rfl rfl) rfl rfl ?_
                refine WL.nil ?_
                refine hK162 ?_
                refine WC.cond rfl (fun c163 => ?_) (fun c163 => ?_)
                .
                  replace c163 := of_decide_eq_true c163
                  refine WC.skip ?_
                  refine hK161 ?_
                  refine WC.seq fun K164 hK164 => ?_
                  refine WC.block ?_
                  refine WC.drawM 10 [(some 248, .is (.int .i64 (i : Int))), (some 249, .is (.int .i64 (i : Int))), (some 250, .is (.pointer (some ⟨W49.heap.size, i, none⟩))), (some 251, .is (.int .u64 (Qb ((Xb st zs).take i ++ st.drop i) i))), (some 252, .is (.int .i64 (i : Int))), (some 253, .is (.pointer (some ⟨W113.heap.size, i, none⟩))), (some 254, .is (.int .u64 (Qb ((Qs (Qg zs 48) (QF st) 64).list) i))), (some 255, .is (.int .u64 ((Qb ((Xb st zs).take i ++ st.drop i) i + Qb ((Qs (Qg zs 48) (QF st) 64).list) i) % 18446744073709551616))), (some 256, .is (.int .i64 32)), (some 257, .is (.int .u64 (Qb (Xb st zs) i)))] [[], [], [1], [2], [], [4], [5], [3, 6], [], [7, 8]] (by kernel_rfl) (by kernel_rfl) (by kernel_rfl) (by kernel_rfl) (by kernel_rfl) (by kernel_rfl) (by kernel_rfl) (by exact trivial) ?_ ?_
                  .
                    refine Qa.cons (fun Wd hd => ?_) ?_
                    .
                      exact DV.dr (Qe rfl rfl) ⟨Below.refl _ _, rfl⟩
                    refine Qa.cons (fun Wd hd => ?_) ?_
                    .
                      exact DV.dr (Qe rfl rfl) ⟨Below.refl _ _, rfl⟩
                    refine Qa.cons (fun Wd hd => ?_) ?_
                    .
                      exact DV.dr (Qm (o1 := i) rfl Tryz.underlying68 Qd rfl rfl (by omega) (by first | (simp; done) | omega)) ⟨Below.refl _ _, rfl⟩
                    refine Qa.cons (fun Wd hd => ?_) ?_
                    .
                      have k64 := k64.below hd
                      exact DV.dr (Qv rfl Ql rfl (k64.cell (k := i) (YG (by rw [show ((Xb st zs).take i ++ st.drop i).length = 8 from (ZZ (Z8 _ _) hsl hi)]; exact (by omega))))) ⟨Below.refl _ _, rfl⟩
                    refine Qa.cons (fun Wd hd => ?_) ?_
                    .
                      exact DV.dr (Qe rfl rfl) ⟨Below.refl _ _, rfl⟩
                    refine Qa.cons (fun Wd hd => ?_) ?_
                    .
                      exact DV.dr (Qm (o1 := i) rfl Tryz.underlying68 Qd rfl rfl (by omega) (by first | (simp; done) | omega)) ⟨Below.refl _ _, rfl⟩
                    refine Qa.cons (fun Wd hd => ?_) ?_
                    .
                      have k134 := k134.below hd
                      exact DV.dr (Qv rfl Ql rfl (k134.cell (k := i) (YG (by rw [show ((Qs (Qg zs 48) (QF st) 64).list).length = 8 from rfl]; exact (by omega))))) ⟨Below.refl _ _, rfl⟩
                    refine Qa.cons (fun Wd hd => ?_) ?_
                    .
                      exact DV.dr (QW rfl rfl rfl (Q9 _)) ⟨Below.refl _ _, rfl⟩
                    refine Qa.cons (fun Wd hd => ?_) ?_
                    .
                      exact DV.dr (Qe rfl rfl) ⟨Below.refl _ _, rfl⟩
                    refine Qa.cons (fun Wd hd => ?_) ?_
                    .
                      exact DR.mono (ZT rfl Tryz.func105 rfl rfl rfl ((show CV _ _ [_, _] _ (fun v _ => v = .int .u64 (Qb (Xb st zs) i)) from CV.mono (Yy (Zx ((Qb ((Xb st zs).take i ++ st.drop i) i + Qb ((Qs (Qg zs 48) (QF st) 64).list) i) % 18446744073709551616) Wd (Y5 _))) fun v _ _ h => h.trans (congrArg (Value.int .u64) (show (Qb ((Xb st zs).take i ++ st.drop i) i + Qb ((Qs (Qg zs 48) (QF st) 64).list) i) % 18446744073709551616 % 4294967296 = Qb (Xb st zs) i from by rw [Qhf (Z8 _ _) hsl (by omega), QeS _ _ _ (by omega)]; exact GT _ _))))) (fun v W' ⟨h, hb⟩ => ⟨hb, (by rw [h]; exact rfl)⟩)
                    exact trivial
                  .
                    intro W165 b166
                    replace hT := hT.below b166
                    replace hA := hA.below b166
                    replace k10 := k10.below b166
                    replace k64 := k64.below b166
                    replace k91 := k91.below b166
                    replace k134 := k134.below b166
                    replace hB := Qk hB b166
                    replace hL := LL.below hL b166
                    refine WL.val (Qm (o1 := i) rfl Tryz.underlying68 Qd rfl rfl (by omega) (by first | (simp; done) | omega)) rfl rfl ?_
                    refine WL.do (Xr (cs' := Q6 (((Xb st zs).take i ++ st.drop i).set i (Qb (Xb st zs) i))) (vs := [.int .u64 (Qb (Xb st zs) i)]) rfl Qd rfl rfl rfl (Qx rfl Yc) k64 rfl (by rw [X8, show ((Xb st zs).take i ++ st.drop i).length = 8 from (ZZ (Z8 _ _) hsl hi)]; exact (by omega)) (QaN (by rw [show ((Xb st zs).take i ++ st.drop i).length = 8 from (ZZ (Z8 _ _) hsl hi)]; exact (by omega)))) rfl ?_
                    rintro _ W167 ⟨k169, o168⟩
                    replace k10 := k10.other o168 n67
                    replace k91 := k91.other o168 n95.symm
                    replace k134 := k134.other o168 n129.symm
                    clear k64
                    replace hT := hT.only o168 (.tail _ (.tail _ (.head _)))
                    replace hA := hA.only o168 (.tail _ (.tail _ (.head _)))
                    replace hB := o168.below hB l68
                    replace hL := LL.only hL o168
                    refine WL.nil ?_
                    refine hK164 ?_
                    refine WC.region ?_
                    refine WL.val (Qe rfl rfl) rfl rfl ?_
                    refine WL.val (QW (r := (i : Int) + 1) rfl rfl rfl (QD (by omega))) rfl rfl ?_
                    refine WL.val (Qi rfl rfl) rfl rfl ?_
                    refine WL.nil ?_
                    rw [Hy (Z8 _ _) hsl (by omega)] at k169
                    exact hK159 (i + 1) ⟨(by omega), hB, hL, hT, hA, k10, k169, k91, k134⟩ (by omega) (by repeat first | exact trivial | exact And.intro rfl trivial | refine And.intro rfl ?_ | refine And.intro (congrArg (fun z : Int => some (Value.int .i64 z)) (by omega)) ?_ | refine And.intro (congrArg (fun z : Bool => some (Value.bool z)) (by first | exact (decide_eq_true (by omega)).symm | exact (decide_eq_false (by omega)).symm)) ?_)
                .
                  replace c163 := of_decide_eq_false c163
                  refine WC.exit ?_
                  refine hK88 ?_
                  have hi8 : i = 8 := by omega
                  subst hi8
                  replace k64 : Q8 W160 W49.heap.size (Q6 (QU Q3 (Xu D) (q + 1))) := by have e : (Xb st zs).take 8 ++ st.drop 8 = (Xb st zs) := (by rw [List.take_of_length_le (by rw [Z8]; exact Nat.le_refl _), List.drop_eq_nil_of_le (by omega), List.append_nil]); rw [e, hst, hzs] at k64; exact k64
                  refine WC.region ?_
                  refine WL.val (Qe rfl rfl) rfl rfl ?_
                  refine WL.val (Qe rfl rfl) rfl rfl ?_
                  refine WL.val (Jy (r := 64) rfl rfl rfl (by decide)) rfl rfl ?_
                  refine WL.val (QW (r := (((q + 1) * 64 : Nat) : Int)) rfl rfl rfl (by rw [QD (by omega)]; omega)) rfl rfl ?_
                  refine WL.val (Qi rfl rfl) rfl rfl ?_
                  refine WL.nil ?_
                  replace hL := hL.less (fun x hx => (.tail _ (.tail _ hx)))
                  replace hT := hT.less (fun x hx => (.tail _ (.tail _ hx)))
                  replace hA := hA.less (fun x hx => (.tail _ (.tail _ hx)))
                  exact hK83 (q + 1) ⟨(by omega), hB, hL, hT, hA, k10, k64⟩ (by omega) (by repeat first | exact trivial | exact And.intro rfl trivial | refine And.intro rfl ?_ | refine And.intro (congrArg (fun z : Int => some (Value.int .i64 z)) (by omega)) ?_ | refine And.intro (congrArg (fun z : Bool => some (Value.bool z)) (by first | exact (decide_eq_true (by omega)).symm | exact (decide_eq_false (by omega)).symm)) ?_)
        .
          replace c87 := of_decide_eq_false c87
          refine WC.exit ?_
          refine hK81 ?_
          refine WC.seq fun K170 hK170 => ?_
          have hpm := (GI D.length).2.2
          have hc_ := c87
          rw [hFm, hFl] at hc_
          have hqe : q = QM D.length / 64 := by omega
          subst hqe
          obtain ⟨st, hst⟩ : ∃ z, z = (QU Q3 (Xu D) (QM D.length / 64)) := ⟨_, rfl⟩
          rw [<- hst] at k64
          have hsl : st.length = 8 := by rw [hst]; exact Gw _ _
          have zhT := hT
          have zk10 := k10
          have zk64 := k64
          have zhB := hB
          have zhL := hL
          have hC : XY W84 (W49.heap.size :: w.heap.size :: L) W84 := Below.refl _ _
          have h5 : Yp 1 W84.heap.size (((Xl st).take 0).map e8) (.slice none 0 0) W84 := .inl ⟨rfl, rfl, by decide⟩
          have htl : (Xl st).length = 32 := Qch st
          refine WC.region ?_
          refine WL.val (Qi rfl rfl) rfl rfl ?_
          refine WL.nil ?_
          refine hK170 ?_
          refine WC.seq fun K171 hK171 => ?_
          refine WC.seq fun K172 hK172 => ?_
          refine WC.region ?_
          refine WL.val (Qi rfl rfl) rfl rfl ?_
          refine WL.nil ?_
          refine hK172 ?_
          refine WC.block ?_
          rw [show (0 : Nat) = 0 * 4 by omega] at h5
          refine WC.loop2 (fun (i : Nat) (ov3 : Value) => [(1, .int .i64 32), (10, .pointer (some ⟨W49.heap.size, 0, none⟩)), (22, ov3), (23, .int .i64 (i : Int))]) (fun (i : Nat) (ov3 : Value) W => i <= 8 /\ Below w.heap.size w W /\ LL (W49.heap.size :: w.heap.size :: L) W /\ ZJ (W49.heap.size :: w.heap.size :: L) W /\ XY W84 (W49.heap.size :: w.heap.size :: L) W /\ Yp 1 W84.heap.size (((Xl st).take (i * 4)).map e8) ov3 W /\ Q8 W w.heap.size [.int .i64 2, .int .i64 13, .int .i64 22, .int .i64 6, .int .i64 11, .int .i64 25, .int .i64 7, .int .i64 18, .int .i64 3, .int .i64 17, .int .i64 19, .int .i64 10] /\ Q8 W W49.heap.size (Q6 st)) (fun (i : Nat) (ov3 : Value) => 8 - i) 0 (.slice none 0 0) (by repeat first | exact trivial | exact And.intro rfl trivial | refine And.intro rfl ?_ | refine And.intro (congrArg (fun z : Int => some (Value.int .i64 z)) (by omega)) ?_ | refine And.intro (congrArg (fun z : Bool => some (Value.bool z)) (by first | exact (decide_eq_true (by omega)).symm | exact (decide_eq_false (by omega)).symm)) ?_) ⟨Nat.zero_le _, hB, hL, hT, hC, h5, k10, k64⟩ ?_
          clear hT hC h5 k10 k64 hB hL
          rintro K173 i ov3 W174 ⟨hi, hB, hL, hT, hC, h5, k10, k64⟩ hK173
          refine WC.seq fun K175 hK175 => ?_
          refine WC.seq fun K176 hK176 => ?_
          refine WC.region ?_
          refine WL.val (Qe rfl rfl) rfl rfl ?_
          refine WL.val (ZF rfl rfl rfl) rfl rfl ?_
          refine WL.nil ?_
          refine hK176 ?_
          refine WC.cond rfl (fun c177 => ?_) (fun c177 => ?_)
          .
            replace c177 := of_decide_eq_true c177
            refine WC.skip ?_
            refine hK175 ?_
            refine WC.seq fun K178 hK178 => ?_
            refine WC.block ?_
            refine WC.seq fun K179 hK179 => ?_
            refine WC.region ?_
            refine WL.val (Qe rfl rfl) rfl rfl ?_
            refine WL.val (X2 (r := 24) rfl rfl rfl (by decide)) rfl rfl ?_
            refine WL.val (Qi rfl rfl) rfl rfl ?_
            refine WL.nil ?_
            refine hK179 ?_
            refine WC.block ?_
            rw [<- Nat.add_zero (i * 4)] at h5
            refine WC.loop2 (fun (j : Nat) (ov4 : Value) => [(1, .int .i64 32), (10, .pointer (some ⟨W49.heap.size, 0, none⟩)), (23, .int .i64 (i : Int)), (22, ov4), (24, .int .i64 (24 - 8 * (j : Int)))]) (fun (j : Nat) (ov4 : Value) W => j <= 4 /\ Below w.heap.size w W /\ LL (W49.heap.size :: w.heap.size :: L) W /\ ZJ (W49.heap.size :: w.heap.size :: L) W /\ XY W84 (W49.heap.size :: w.heap.size :: L) W /\ Yp 1 W84.heap.size (((Xl st).take (i * 4 + j)).map e8) ov4 W /\ Q8 W w.heap.size [.int .i64 2, .int .i64 13, .int .i64 22, .int .i64 6, .int .i64 11, .int .i64 25, .int .i64 7, .int .i64 18, .int .i64 3, .int .i64 17, .int .i64 19, .int .i64 10] /\ Q8 W W49.heap.size (Q6 st)) (fun (j : Nat) (ov4 : Value) => 4 - j) 0 ov3 (by repeat first | exact trivial | exact And.intro rfl trivial | refine And.intro rfl ?_ | refine And.intro (congrArg (fun z : Int => some (Value.int .i64 z)) (by omega)) ?_ | refine And.intro (congrArg (fun z : Bool => some (Value.bool z)) (by first | exact (decide_eq_true (by omega)).symm | exact (decide_eq_false (by omega)).symm)) ?_) ⟨Nat.zero_le _, hB, hL, hT, hC, h5, k10, k64⟩ ?_
            clear hT hC h5 k10 k64 hB hL
            rintro K180 j ov4 W181 ⟨hj, hB, hL, hT, hC, h5, k10, k64⟩ hK180
            have hol3 : ((Xl st).take (i * 4 + j)).length <= 32 := (by rw [List.length_take]; omega)
            refine WC.seq fun K182 hK182 => ?_
            refine WC.seq fun K183 hK183 => ?_
            refine WC.region ?_
            refine WL.val (Qe rfl rfl) rfl rfl ?_
            refine WL.val (FP rfl rfl rfl) rfl rfl ?_
            refine WL.nil ?_
            refine hK183 ?_
            refine WC.cond rfl (fun c184 => ?_) (fun c184 => ?_)
            .
              replace c184 := of_decide_eq_true c184
              refine WC.skip ?_
              refine hK182 ?_
              refine WC.seq fun K185 hK185 => ?_
              refine WC.block ?_
              refine WC.region ?_
              refine WL.val (Qe rfl rfl) rfl rfl ?_
              refine WL.val (Qe rfl rfl) rfl rfl ?_
              refine WL.val (Qm (o1 := i) rfl Tryz.underlying68 Qd rfl rfl (by omega) (by first | (simp; done) | omega)) rfl rfl ?_
              refine WL.val (Qv rfl Ql rfl (k64.cell (k := i) (YG (by rw [show st.length = 8 from hsl]; exact (by omega))))) rfl rfl ?_
              refine WL.val (Qe rfl rfl) rfl rfl ?_
              refine WL.val (XZ (r := (24 - 8 * (j : Int))) rfl Tryz.underlying3 Tryz.underlying75 rfl (by rw [Q9]; omega)) rfl rfl ?_
              refine WL.val (Jw rfl rfl rfl (by omega) (by show _ <= (64 : Int); omega) rfl) rfl rfl ?_
              refine WL.val (XZ (r := Qb (Xl st) (i * 4 + j)) rfl Tryz.underlying47 Tryz.underlying5 rfl ((E4 _).trans (Qcg st i j (by omega) (by omega)))) rfl rfl ?_
              refine WL.get (V3 (r := e8 (Qb (Xl st) (i * 4 + j))) rfl Xg (by decide) (by decide) rfl rfl rfl) rfl rfl ?_
              rintro x186 W187 ⟨k189, b188, z190⟩
              replace hT := hT.below b188
              replace hC := hC.below b188
              replace h5 := h5.below b188
              replace k10 := k10.below b188
              replace k64 := k64.below b188
              replace hB := Qk hB b188
              replace hL := LL.below hL b188
              have hx := k189.rd (L := []) (by simp)
              refine WL.get (Jz (base := W84.heap.size) rfl Xg rfl rfl h5 hx (J6 [Qb (Xl st) (i * 4 + j)]) (by simp [maxLen]; omega) (by simp; omega) (Below.size hC)) rfl rfl ?_
              rintro x191 W192 ⟨h5, b193⟩
              replace h5 : Yp 1 W84.heap.size ((((Xl st).take (i * 4 + j)) ++ [Qb (Xl st) (i * 4 + j)]).map e8) x191 W192 := by rw [List.map_append]; exact h5
              replace hC : XY W84 (W49.heap.size :: w.heap.size :: L) W192 := Below.trans hC b193
              replace hT := zhT.below hC
              replace k10 := zk10.below hC
              replace k64 := zk64.below hC
              replace hB := Qk zhB hC
              replace hL := LL.below zhL hC
              refine WL.val (Qi rfl rfl) rfl rfl ?_
              refine WL.nil ?_
              refine hK185 ?_
              refine WC.region ?_
              refine WL.val (Qe rfl rfl) rfl rfl ?_
              refine WL.val (X2 (r := (24 - 8 * ((j + 1 : Nat) : Int))) rfl rfl rfl (by rw [QD (by omega)]; omega)) rfl rfl ?_
              refine WL.val (Qi rfl rfl) rfl rfl ?_
              refine WL.nil ?_
              rw [show (((Xl st).take (i * 4 + j)) ++ [Qb (Xl st) (i * 4 + j)]) = ((Xl st).take (i * 4 + (j + 1))) from by rw [<- Nat.add_assoc, ZM _ _ (by rw [htl]; omega)]] at h5
              exact hK180 (j + 1) x191 ⟨(by omega), hB, hL, hT, hC, h5, k10, k64⟩ (by omega) (by repeat first | exact trivial | exact And.intro rfl trivial | refine And.intro rfl ?_ | refine And.intro (congrArg (fun z : Int => some (Value.int .i64 z)) (by omega)) ?_ | refine And.intro (congrArg (fun z : Bool => some (Value.bool z)) (by first | exact (decide_eq_true (by omega)).symm | exact (decide_eq_false (by omega)).symm)) ?_)
            .
              replace c184 := of_decide_eq_false c184
              refine WC.exit ?_
              refine hK178 ?_
              refine WC.region ?_
              refine WL.val (Qe rfl rfl) rfl rfl ?_
              refine WL.val (QW (r := (i : Int) + 1) rfl rfl rfl (QD (by omega))) rfl rfl ?_
              refine WL.val (Qi rfl rfl) rfl rfl ?_
              refine WL.nil ?_
              rw [show i * 4 + j = (i + 1) * 4 by omega] at h5
              exact hK173 (i + 1) ov4 ⟨(by omega), hB, hL, hT, hC, h5, k10, k64⟩ (by omega) (by repeat first | exact trivial | exact And.intro rfl trivial | refine And.intro rfl ?_ | refine And.intro (congrArg (fun z : Int => some (Value.int .i64 z)) (by omega)) ?_ | refine And.intro (congrArg (fun z : Bool => some (Value.bool z)) (by first | exact (decide_eq_true (by omega)).symm | exact (decide_eq_false (by omega)).symm)) ?_)
          .
            replace c177 := of_decide_eq_false c177
            refine WC.exit ?_
            refine hK171 ?_
            refine WC.seq fun K194 hK194 => ?_
            refine WC.region ?_
            refine WL.val (Qe rfl rfl) rfl rfl ?_
            refine WL.val (Qi rfl rfl) rfl rfl ?_
            refine WL.nil ?_
            refine hK194 ?_
            refine WC.ret fun a_ ha_ => ?_
            exact hQ (Qep rfl (.tmp rfl) (by have e8' : i = 8 := (by omega); subst e8'; have eS : Yh D = (Xl st).take (8 * 4) := (by rw [Qck, <- hst, List.take_of_length_le (by rw [htl]; decide)]); rw [eS]; exact h5.rd (fun y hy => zhL y (.tail _ (.tail _ hy)))) hB ha_)

theorem Uj (D : List Int) : (Yh D).length = 32 := by unfold Yh Xl; simp
set_option maxHeartbeats 1000000 in
theorem Qgb {D : List Int} (hD : Qh D) (hDm : D.length <= 10000) {a0 : Option Addr} {n0 c0 : Nat} : PV Tryz.prog (gR ++ [fB (.slice a0 n0 c0) D]) 25 [.o a0 n0 c0] (.a .u8 (Yh D) 32) := by
  have hsl := Uj D
  refine PV.mk' Tryz.func25 rfl rfl rfl rfl fun w L hL hG => ?_
  refine S.enter Qw [.o a0 n0 c0] (gR ++ [fB (.slice a0 n0 c0) D]) Tryz.func25 rfl rfl rfl (fun _ => rfl) hL hG ?_
  refine S.go false rfl (by repeat' (first | exact True.intro | refine And.intro ?_ ?_ | assumption | omega | (dsimp only; omega) | (simp only [Nat.add_eq, Nat.mul_eq, Nat.sub_eq, SV.wd]; omega) | exact rfl)) ?_
  refine S.call (α := Option Addr × Nat) (sv := fun x => .o x.1 32 x.2) (fs := fun x => [fB (.slice x.1 32 x.2) (Yh D)]) (pr := fun _ => True) rfl rfl rfl rfl rfl rfl Tryz.func66 rfl rfl (fun ρ w h => ?_) (fun _ => rfl) (fun x _ => ?_)
  . have hf := h.f 7 rfl
    refine CV.mono (Qcx D _ w _ h.lt hf.1 (QhF h.hs.pre) hDm hD) fun v W _ hr => ?_
    obtain ⟨r0, r1, a, cap, e, r3, r4, r5, r6⟩ := hr
    have hl : ((Yh D).map e8).length = 32 := by simp [hsl]
    rw [hl] at e r3
    refine ⟨(a, cap), e, ⟨⟨⟨r0, r1, a, cap, ?_, ?_, r4, r5, r6⟩, fun a' n' c' e' ha => ?_⟩, trivial⟩, trivial⟩
    . show Value.slice a 32 cap = .slice a ((Yh D).map e8).length cap
      rw [hl]
    . show ((Yh D).map e8).length <= cap
      rw [hl]; exact r3
    . cases e'
      exact r5 ha
  . refine S.go false rfl (by repeat' (first | exact True.intro | refine And.intro ?_ ?_ | assumption | omega | (dsimp only; omega) | (simp only [Nat.add_eq, Nat.mul_eq, Nat.sub_eq, SV.wd]; omega) | exact rfl)) ?_
    refine S.slc 4 [.a .u8 (Yh D) 32] rfl (fun ρ w h => (h.f 8 rfl).1) (by rw [ZE]; simp [Qp, SV.cs]) (by simp [YC, SV.wd]) ?_ ⟨hsl, trivial⟩
    generalize Yh D = s at *
    refine S.recell 1 [.a .u8 (cpB 32 s 0) 32] rfl (fun ρ => by rw [FX]) ⟨Z6 32 s 0, trivial⟩ rfl ?_
    refine S.loop [2, 3, 4] (fun k : Nat => [(5, .i .i64 (k : Int))]) (fun k => [(0, [.a .u8 (List.replicate 32 0) 32]), (1, [.a .u8 (cpB 32 s k) 32])]) (fun _ => []) (fun k => k <= 32) (fun k => 32 - k) 0 rfl (fun _ => rfl) (fun _ => rfl) rfl ⟨⟨rfl, rfl⟩, trivial⟩ (by repeat' (first | exact True.intro | refine And.intro ?_ ?_ | exact Z6 32 s 0 | exact rfl)) (fun _ _ _ => trivial) (by omega) fun J k hk again => ?_
    have hk' : k <= 32 := hk
    have hlen := Z6 32 s k
    have hlen' := Z6 32 s (k + 1)
    refine S.g false rfl ?_
    refine S.cond rfl (fun c5 => ?_) (fun c5 => ?_)
    . have c' : k < 32 := by omega
      refine S.go false rfl (by repeat' (first | exact True.intro | refine And.intro ?_ ?_ | exact hlen | exact hsl | omega | (dsimp only; omega) | (simp only [List.length_set]; exact hlen) | exact rfl)) ?_
      refine S.again (again (k + 1) (show k + 1 <= 32 by omega) (show 32 - (k + 1) < 32 - k by omega)) ⟨⟨rfl, by omega⟩, rfl, rfl, rfl, trivial⟩ ?_ rfl rfl (fun x hx => hx) rfl (fun ρ W h => h.hs)
      repeat' (first | exact True.intro | refine And.intro ?_ ?_ | exact congrArg (fun z => SV.a .u8 z 32) (FY c') | exact hlen' | exact rfl)
    . obtain rfl : k = 32 := by omega
      rw [D2 hsl] at hlen ⊢
      refine S.go false rfl (by repeat' (first | exact True.intro | refine And.intro ?_ ?_ | exact hsl | exact rfl)) ?_
      exact S.retv rfl rfl rfl rfl rfl
/-- An operation that yields one of these values, with these facts, and makes new blocks at most. -/
theorem S.gv {c : Cx} {ks : List It} {f : SF} {m : SM} {d : SD} {n : Nat} {Γ : List QN} {ops : Array Oper} {o : Oper} {r : List Oper} {t : Nat} {α : Type} (sv : α -> SV) (fs : α -> List QN) (hd : o.dst = some t) (h : ∀ ρ w, WM ρ c.L0 c.w0 m d n Γ w -> DR c.P ops o c.N (QI ρ f) w (fun u W => (∃ x, u = (sv x).den QR /\ Hs (fs x) (own ρ m c.L0) W) /\ Below w.heap.size w W)) (hwf : ∀ x, (sv x).wf 0 = true) (k : ∀ x, S c (.o ops r :: ks) ((t, sv x) :: f) m d n (Γ ++ fs x)) (hlt : Nat.blt t c.N = true := by rfl) : S c (.o ops (o :: r) :: ks) f m d n Γ := fun ρ a w ha hW => by
  refine (WL.get (h ρ w hW) hd (decide_eq_true (QY hlt)) (Q := Kn c ks) (rest := r) fun u W hu => ?_) a ha
  obtain ⟨⟨x, rfl, hf⟩, hb⟩ := hu
  intro a' ha'
  have hW' := hW.below hb
  refine k x ρ a' W ?_ ⟨hW'.mem, hW'.key, hW'.nod, hW'.low, hW'.bel, hW'.dat, hW'.dky, hW'.ll, hW'.hs.app hf⟩
  show Fr c.N a' ((t, (sv x).den ρ) :: QI ρ f)
  rw [Yr (hwf x) ρ QR]
  exact ha'
theorem QbZ (e : TypeId) (s : ByteArray) (w : World) : Below w.heap.size w (Go.Lib.bytesWorld w e s) :=
  ⟨rfl, rfl, rfl, by rw [Go.Lib.bytesWorld_size]; omega, fun k hk => Go.Lib.bytesWorld_at_old w e s k hk⟩
theorem Qkw {P : Program} {ops : Array Oper} {o : Oper} {N : Nat} {f : Fl} {w : World} {t d e : TypeId} {x : Operand} {s : ByteArray} {L : List Nat} (ho : o.op = .convert t d x) (hs : P.underlying t = some .string) (hd : P.underlying d = some (.slice e)) (he : P.underlying e = some (.int .u8)) (hx : ev f x = some (.string s)) (hL : LL L w) (hm : s.size <= maxLen) (hw : Qu ops o f = some true := by rfl) : DR P ops o N f w fun u W => (∃ a c, u = .slice (some a) s.size c /\ Zh 1 L W u ((sb s).map fun z => [Value.int .u8 z])) /\ Below w.heap.size w W := fun a ha => by
  have hx := ha.ev hx
  refine Qt.of_wp (Qj ha hw) fun K hK => ?_
  unfold Oper.wp execOp
  simp only [ho, hx, Sem.run_bind, Sem.run_pure, Go.Lib.run_convert_string_bytes w t d e s hs hd he, Result.andThen_ok]
  refine hK _ _ ⟨⟨_, _, rfl, by decide, fun r hr => ?_, some ⟨w.heap.size, 0, none⟩, grownCap w s.size 0 e, by rw [List.length_map, Ul], by rw [List.length_map, Ul]; exact grownCap_ge _ _ _ _, grownCap_le_maxLen _ _ _ _ hm, fun e => (by cases e), fun _ => ⟨_, _, rfl, hL.notin (Nat.le_refl _), ?_⟩⟩, QbZ e s w⟩
  . obtain ⟨y, _, rfl⟩ := List.mem_map.1 hr
    rfl
  . intro j u hj
    rw [ZE] at hj
    obtain ⟨hl, rfl⟩ := List.getElem?_eq_some_iff.1 hj
    rw [List.length_map, Ul] at hl
    rw [Nat.zero_add, Go.Lib.bytesWorld_cell w e s j hl]
    have hl2 : j < s.data.toList.length := by simpa using hl
    rw [List.getElem_map]
    unfold sb
    rw [List.getElem_map, List.getD_eq_getElem?_getD, List.getElem?_eq_getElem hl2]
    rfl
theorem QiW {t : ByteArray} (ht : t.size <= 9000) : PV Tryz.prog gR 11 [.s t] (.a .u8 (Yh (sb t)) 32) := by
  have hS := fun (a : Option Addr) (c : Nat) => Qgb (D := sb t) (QaO t) (by rw [Ul]; omega) (a0 := a) (n0 := t.size) (c0 := c)
  have hl := Uj (sb t)
  refine PV.mk' Tryz.func11 rfl rfl rfl rfl fun w L hL hG => ?_
  refine S.enter Qw [.s t] gR Tryz.func11 rfl rfl rfl (fun _ => rfl) hL hG ?_
  refine S.go false rfl (by repeat' (first | exact True.intro | refine And.intro ?_ ?_ | assumption | omega | (dsimp only; omega) | (simp only [Nat.add_eq, Nat.mul_eq, Nat.sub_eq, SV.wd]; omega) | exact rfl)) ?_
  refine S.gv (α := Addr × Nat) (fun x => .o (some x.1) t.size x.2) (fun x => [fB (.slice (some x.1) t.size x.2) (sb t)]) rfl (fun ρ w h => (Qkw rfl Tryz.underlying9 Tryz.underlying23 Tryz.underlying5 rfl h.lt (by unfold maxLen; omega)).mono fun u W h => ⟨?_, h.2⟩) (fun _ => rfl) (fun x => ?_)
  . obtain ⟨⟨a, c, rfl, hr⟩, _⟩ := h
    exact ⟨(a, c), rfl, ⟨hr, fun a' n' c' e he => by cases e; cases he⟩, trivial⟩
  generalize Yh (sb t) = s at *
  refine S.go false rfl (by repeat' (first | exact True.intro | refine And.intro ?_ ?_ | assumption | omega | (dsimp only; omega) | (simp only [Nat.add_eq, Nat.mul_eq, Nat.sub_eq, SV.wd]; omega) | exact rfl)) ?_
  refine S.cv rfl rfl rfl rfl rfl rfl (hS (some x.1) x.2) ?_
  refine S.go false rfl (by repeat' (first | exact True.intro | refine And.intro ?_ ?_ | assumption | omega | (dsimp only; omega) | (simp only [Nat.add_eq, Nat.mul_eq, Nat.sub_eq, SV.wd]; omega) | exact rfl)) ?_
  exact S.retv rfl rfl rfl rfl rfl
theorem QiH {D : List Int} (hD : Qh D) (hDm : D.length <= 10000) {a : Option Addr} {n c : Nat} (k : Nat) : PR Tryz.prog (gR ++ [fB (.slice a n c) D]) 24 [.y k 0 1 1] [(k, [.o a n c])] (.a .u8 (Yh D) 32) := PR.mk' Tryz.func24 rfl rfl rfl fun ρ w hG hmm => by
  obtain ⟨b1, -⟩ := hmm _ (.head _)
  simp only [Qp, SV.cs, SV.den, List.append_nil] at b1
  have hr := fB.rd (hG.get (i := 7) rfl)
  have hp := Dl (w := w) (B := ρ.b k) (ps := [(.slice a n c, D)]) b1 (by simp [maxLen]) (fun p hp => by
    simp only [List.mem_singleton] at hp
    subst hp
    exact ⟨hr, hD⟩)
  have e : Yz [((.slice a n c : Value), D)] = D := by simp [Yz]
  have hl := Uj D
  simp only [QO, SV.den]
  refine Calls.mono (QiG w (QhE hG.pre.pre) _ _ hp (by rw [e]; omega)) fun e' w' h => ?_
  rw [e] at h
  exact ⟨_, h.1, ⟨(), by simp only [SV.den]; rfl, trivial, trivial⟩, h.2⟩
theorem QkT {t : ByteArray} (ht : t.size <= 9000) : PV Tryz.prog gR 10 [.s t] (.a .u8 (Yh (sb t)) 32) := by
  have hS := fun (a : Option Addr) (c : Nat) (k : Nat) => QiH (D := sb t) (QaO t) (by rw [Ul]; omega) (a := a) (n := t.size) (c := c) k
  have hl := Uj (sb t)
  refine PV.mk' Tryz.func10 rfl rfl rfl rfl fun w L hL hG => ?_
  refine S.enter Qw [.s t] gR Tryz.func10 rfl rfl rfl (fun _ => rfl) hL hG ?_
  refine S.go false rfl (by repeat' (first | exact True.intro | refine And.intro ?_ ?_ | assumption | omega | (dsimp only; omega) | (simp only [Nat.add_eq, Nat.mul_eq, Nat.sub_eq, SV.wd]; omega) | exact rfl)) ?_
  refine S.gv (α := Addr × Nat) (fun x => .o (some x.1) t.size x.2) (fun x => [fB (.slice (some x.1) t.size x.2) (sb t)]) rfl (fun ρ w h => (Qkw rfl Tryz.underlying9 Tryz.underlying23 Tryz.underlying5 rfl h.lt (by unfold maxLen; omega)).mono fun u W h => ⟨?_, h.2⟩) (fun _ => rfl) (fun x => ?_)
  . obtain ⟨⟨a, c, rfl, hr⟩, _⟩ := h
    exact ⟨(a, c), rfl, ⟨hr, fun a' n' c' e he => by cases e; cases he⟩, trivial⟩
  generalize Yh (sb t) = s at *
  refine S.go false rfl (by repeat' (first | exact True.intro | refine And.intro ?_ ?_ | assumption | omega | (dsimp only; omega) | (simp only [Nat.add_eq, Nat.mul_eq, Nat.sub_eq, SV.wd]; omega) | exact rfl)) ?_
  refine S.cr [1] rfl rfl rfl rfl rfl rfl rfl (hS (some x.1) x.2 1) ?_
  refine S.go false rfl (by repeat' (first | exact True.intro | refine And.intro ?_ ?_ | assumption | omega | (dsimp only; omega) | (simp only [Nat.add_eq, Nat.mul_eq, Nat.sub_eq, SV.wd]; omega) | exact rfl)) ?_
  exact S.retv rfl rfl rfl rfl rfl
theorem QiN {z m : List Int} (hz : Qh z) (hl : z.length = 32) (hm : Qh m) (hH : HM z) {t : ByteArray} {a0 : Option Addr} {n0 c0 : Nat} (hn : n0 = m.length) : PV Tryz.prog (gR ++ [fB (.slice a0 n0 c0) m]) 3 [.a .u8 z 32, .o a0 n0 c0, .s t] (.l true) := by
  have hA := Qj7.up (G' := (gR ++ [fB (.slice a0 n0 c0) m])) (fun L w h => h.pre.pre)
  have upS : ∀ L w, Hs (gR ++ [fB (.slice a0 n0 c0) m]) L w -> Hs (gS ++ [fB (.slice a0 n0 c0) m]) L w := fun L w h => h.pre.pre.app ⟨(h.get (i := 7) rfl : (fB (.slice a0 n0 c0) m).h L w), trivial⟩
  refine PV.mk' Tryz.func3 rfl rfl rfl rfl fun w L hL hG => ?_
  refine S.enter Qw [.a .u8 z 32, .o a0 n0 c0, .s t] (gR ++ [fB (.slice a0 n0 c0) m]) Tryz.func3 rfl rfl rfl (fun _ => rfl) hL hG ?_
  refine S.go false rfl (by repeat' (first | exact True.intro | refine And.intro ?_ ?_ | assumption | omega | (dsimp only; omega) | (simp only [Nat.add_eq, Nat.mul_eq, Nat.sub_eq, SV.wd]; omega) | exact rfl)) ?_
  refine S.cv rfl rfl rfl rfl rfl rfl hA ?_
  refine S.g false rfl ?_
  refine S.cond rfl (fun c => ?_) (fun c => ?_)
  . refine S.g false rfl ?_
    exact S.retv rfl rfl rfl rfl rfl
  have hml : m.length <= 9000 := by omega
  have ht : t.size <= 9000 := by omega
  have p1 := ((Qa1 hz hl).up (G' := (gR ++ [fB (.slice a0 n0 c0) m])) (fun L w h => h.pre.pre))
  change PV _ _ _ _ (.a .u8 (Zr z) 32) at p1
  have p2 := (Qe0 hl hH).up (G' := (gR ++ [fB (.slice a0 n0 c0) m])) (fun L w h => h.pre)
  have q1 := (Qgh (a0 := a0) (n0 := n0) (c0 := c0) hm (by omega : m.length < 1000000) hz hl).up upS
  have q2 := QiV (a0 := a0) (n0 := n0) (c0 := c0) hm hml hl hH
  have r1 := (QkT ht).up (G' := (gR ++ [fB (.slice a0 n0 c0) m])) (fun L w h => h.pre)
  have r2 := (QiW ht).up (G' := (gR ++ [fB (.slice a0 n0 c0) m])) (fun L w h => h.pre)
  have l1 : (Zr z).length = 32 := Q1 _
  have l2 : (Jk z m ++ sB z m).length = 64 := by
    have h1 : (Jk z m).length = 32 := Q1 _
    have h2 := Di z m
    rw [List.length_append]; omega
  have l3 := Uj (sb t)
  generalize Zr z = K at *
  generalize Jk z m ++ sB z m = G2 at *
  generalize Yh (sb t) = s at *
  refine S.g false rfl ?_
  refine S.drp false [(1, .a .u8 K 32), (3, .a .u8 K 32), (4, .l true), (8, .a .u8 G2 64), (11, .a .u8 G2 64), (12, .l true), (16, .a .u8 s 32), (18, .a .u8 s 32)] rfl rfl rfl ?_ (by repeat' (first | exact True.intro | refine And.intro ?_ ?_ | assumption | omega | exact rfl | (intro ρ; simp only [SV.den, decide_true]; done)))
  refine S.g false rfl ?_
  exact S.retv rfl rfl rfl rfl (by simp only [SV.den, decide_true])
end Go.Proofs.YtbiboamaigedjaaGreatDoor
namespace Go.Proofs.YtbiboamaigedjaaGreatDoor
open Go.RowKit
set_option linter.unusedVariables false
set_option linter.constructorNameAsVariable false
set_option linter.unusedSimpArgs false
section
variable {c : Cx} {os : List Oper} {f : SF} {m : SM} {d : SD} {n : Nat} {Γ : List QN} {ks : List It} {id : Nat} {A : List (Nat × Nat)} {cA : List Prop} {fps : List (Nat × Nat)}
theorem S.drawnT {id : Nat} {md : Bool} {α : Type} {j : Nat} {sv : α -> SV} {fs : α -> List QN} {pr : α -> Prop} {V : α -> VR} {E : α -> List Ef} {cB : α -> List Prop} {pv : List (Nat × SV)} {G : List QN} {rk : List (Nat × List Nat)} {xk : List Nat} {all suf : List Oper} (h : Dw c md os f m d n Γ α j sv fs pr V E A cA cB fps pv G rk xk) [Inhabited α] (hm : c.P.follows .mixedOrders = true) (hops : os ++ suf = all) (hba : Ud .any all.toArray = true) (ht : KH .any all.toArray os.length = true) {ks : List It} {f' : α -> SF} {m' : α -> SM} (hf' : ∀ x, GR (V x) f 0 os.length = some (f' x)) (hm' : ∀ x, Xj (E x) m = m' x) (hj : Nat.blt j os.length = true \/ ∀ x, pr x /\ fs x = [])
    (k : ∀ x, pr x -> S c (.o all.toArray suf :: ks) (f' x) (m' x) d (n + os.length) (Γ ++ fs x)) : S c (.c (.region id all.toArray true) :: ks) f m d n Γ := fun ρ0 a w ha hW => by
  subst hops
  have km := Zn hW.nod
  refine wp_region_any hm ?_
  have hrep : Array.replicate (os ++ suf).toArray.size false = Array.replicate os.toArray.size false ++ Array.replicate suf.length false := by
    simp [Array.replicate_append_replicate]
  rw [hrep]
  have hsz : (os ++ suf).toArray.size = os.toArray.size + suf.length := by simp
  rw [hsz]
  refine Qa2 (pre := os.toArray) (suf := suf) hba h.hb (by simp) (by simpa using ht) os.toArray.size _ (by simp) (fun j hj => by simp [Array.getD_eq_getD_getElem?, Array.getElem?_replicate] at hj; split at hj <;> simp_all) a w.drew ?_
  have hF0 : ∀ j, (Array.replicate os.toArray.size false).getD j false = true -> False := fun j hj => by simp [Array.getD_eq_getD_getElem?, Array.getElem?_replicate] at hj; split at hj <;> simp_all
  have hL0 : (fun j => (Array.replicate os.toArray.size false).getD j false) = fun _ => false := by
    funext j
    cases hj : (Array.replicate os.toArray.size false).getD j false with
    | false => rfl
    | true => exact (hF0 j hj).elim
  have hW1 := hW.below (Yo (Below.refl _ _) 1)
  have hstart : ∀ g, DG c os f m d n Γ j fs pr V E ρ0 (fun _ => false) g w.drew := fun g => by
    refine ⟨ρ0, default, rfl, (fun i t v hi => by cases hi), (fun hi => by cases hi), (fun k o _ hk => by cases hk), ?_⟩
    have hmm : ∀ (l : List Ef) (k : Nat) (m : SM), Xj (Yv (fun _ => false) k l) m = m := by
      intro l
      induction l with
      | nil => intro k m; rfl
      | cons e l ih => intro k m; exact ih (k + 1) m
    rw [hmm]
    simp only [cond_false, List.append_nil]
    exact ⟨hW1.mem, fun x hx => Nat.lt_of_lt_of_le (hW1.key x hx) (Nat.le_add_right _ _), hW1.nod, hW1.low, hW1.bel, hW1.dat, fun x hx => Nat.lt_of_lt_of_le (hW1.dky x hx) (Nat.le_add_right _ _), hW1.ll, hW1.hs⟩
  refine KE (md := .any) h.hb a (fun L g W => (∀ i, L i = true -> i < os.length) /\ DG c os f m d n Γ j fs pr V E ρ0 L g W) (fun _ _ _ => True) (fun _ _ _ _ => True) (fun _ _ _ _ _ _ _ _ _ _ => trivial) ?_ ?_ os.toArray.size _ (fun _ => undef) a w.drew (by simp) (by
      have := List.countP_le_length (p := fun b => !b) (l := (Array.replicate os.toArray.size false).toList)
      simpa using this) (fun j hj => (hF0 j hj).elim) (Q4.start fun j hj => hF0 j hj) (by rw [hL0]; exact ⟨fun i hi => (by cases hi), hstart _⟩) (fun _ _ => trivial)
  . intro i o hoi L g W hLi hno hdl hG _
    have ho : os[i]? = some o := by simpa using hoi
    refine (h.step km ha hG.2 hG.1 ho hLi hdl).mono fun v W' hv => ⟨trivial, ⟨fun q hq => ?_, hv⟩, trivial⟩
    unfold Yq at hq
    split at hq
    . rename_i e; subst e; exact (List.getElem?_eq_some_iff.1 ho).1
    . exact hG.1 q hq
  . intro L g W hL hG _
    obtain ⟨_, ρ, x, h1, h2, h3, h4, h5⟩ := hG
    have hLt : ∀ i, i < os.length -> L i = true := fun i hi => by rw [hL i]; simpa using hi
    have hel := h.len x
    rw [Fz fun i hi => hLt i (by omega), hm' x] at h5
    have hfr : Fr c.N (Xe os.toArray g (List.range os.toArray.size) a) (QI ρ (f' x)) := by
      rw [List.range_eq_range']
      refine h.fr x h2 (l := List.range' 0 os.toArray.size) (fun i hi => ?_) (by rw [<- HD]; simpa using hf' x) (by rw [h1]; exact ha)
      have : i < os.length := by simpa [List.mem_range'] using hi
      exact ⟨hLt i this, this⟩
    have fin : ∀ x, S c (.o (os ++ suf).toArray suf :: ks) (f' x) (m' x) d (n + os.length) (Γ ++ fs x) -> ∀ W, WM ρ c.L0 c.w0 (m' x) d (n + os.length) (Γ ++ fs x) W -> Fr c.N (Xe os.toArray g (List.range os.toArray.size) a) (QI ρ (f' x)) -> Qk2 c.P (os ++ suf).toArray (Kn c ks) os.toArray.size suf.length .normal (Xe os.toArray g (List.range os.toArray.size) a) W := fun x hS W hw hf => by
      show wpOps c.P (os ++ suf).toArray (Kn c ks) (List.range' os.toArray.size suf.length) _ _
      rw [wpOps_eq_wpList suf os.toArray.size (fun j => by simp [List.getElem?_append_right])]
      exact hS ρ _ W hf hw
    cases hLj : L j with
    | true =>
      rw [hLj] at h5
      exact fin x (k x (h3 hLj)) W h5 hfr
    | false =>
      rw [hLj] at h5
      rcases hj with hj | hj
      . rw [hLt j (QY hj)] at hLj; cases hLj
      . have hk := k x (hj x).1
        refine fin x hk W ?_ hfr
        rw [(hj x).2]
        exact h5
/-- The first q operations in whatever order, the others one by one. -/
theorem S.drt {G : List QN} {all : List Oper} (q : Nat) (md : Bool) (pv : List (Nat × SV)) (rk : List (Nat × List Nat)) (hos : all.take q = os) {V : VR} {E : List Ef} {cB : List Prop} {f' : SF} {m' : SM} (hx : drx (c.T.wo c.P G pv rk []) md c.N d n os.length .u f os.toArray os 0 [] m [] = some (V, E, A, cA, cB, fps)) (hf' : GR V f 0 os.length = some f') (hm' : Gb E m some = some m') (k : S c (.o all.toArray (all.drop q) :: ks) f' m' d (n + os.length) Γ)
    (hc : XD cA /\ XD cB := by repeat' (first | assumption | exact True.intro | exact fun h => h | refine And.intro ?_ ?_ | omega | exact rfl | (simp only [Int.reduceToNat, Int.reducePow]; omega) | intro _)) (hm : c.P.follows .mixedOrders = true := by kernel_rfl) (hb : Ud .any os.toArray = true := by kernel_rfl) (hba : Ud .any all.toArray = true := by kernel_rfl) (ht : KH .any all.toArray os.length = true := by kernel_rfl) (ho : D4 A E fps = true := by rfl) (hn : GV A V E n E 0 = true := by rfl) (wff : wfF n f = true := by rfl) (wfm : HR n m = true := by rfl) (wfd : Hk n d = true := by rfl) (hG : ∀ L' W, Hs Γ L' W -> Hs G L' W := by first | exact fun _ _ h => h | exact fun _ _ h => Hs.pre h) : S c (.c (.region id all.toArray true) :: ks) f m d n Γ :=
  S.drawnT (α := Unit) (j := os.length) (sv := fun _ => .u) (fs := fun _ => []) (pr := fun _ => True) (V := fun _ => V) (E := fun _ => E) (A := A) (cA := cA) (cB := fun _ => cB) (fps := fps) (f' := fun _ => f') (m' := fun _ => m') (suf := all.drop q)
    ⟨hb, fun _ => hx, fun _ => ho, fun _ => hn, fun _ _ _ _ _ => ⟨rfl, rfl⟩, hc.1, fun _ _ => hc.2, fun _ => rfl, wff, wfm, wfd, fun o hoj => by simp at hoj, hG⟩
    hm (by rw [<- hos]; exact List.take_append_drop q all) hba ht (fun _ => hf') (fun _ => by rw [VH] at hm'; exact Option.some.inj hm') (.inr fun _ => ⟨trivial, rfl⟩) fun _ _ => by rw [List.append_nil]; exact k
end
/-- A part of what an own block holds, as a slice that is read beside another one. -/
theorem WM.rdBo {ρ : QS} {L0 : List Nat} {w0 w : World} {m : SM} {d : SD} {n : Nat} {Γ : List QN} (h : WM ρ L0 w0 m d n Γ w) {j k o q : Nat} {cl ck : Cl} {K : IntKind} {zs : List Int} (hj : ZI m j = some cl) (hk : ZI m k = some ck) (hn : j ≠ k) (he : ∀ ρ, Qp ρ cl = zs.map (Value.int K)) (hl : zs.length = o + q) (hm : o + q <= maxLen) : Zh 1 [ρ.b k] w ((SV.y j o q q).den ρ) ((zs.drop o).map fun z => [Value.int K z]) := by
  have hb := (h.cell hj).1
  rw [he] at hb
  have hr := RwB.part (L := [ρ.b k]) (B := ρ.b j) (R := zs.map fun z => [Value.int K z]) (lo := o) (n := q) (c := q) (o1 := o) ⟨by omega, fun r hr => by simp only [List.mem_map] at hr; obtain ⟨x, _, rfl⟩ := hr; rfl, by rw [List.length_map, hl]; exact hm, by rw [Qeb]; exact hb⟩ (fun hx => by simp only [List.mem_singleton] at hx; exact h.inj hj hk hn hx) (fun _ => (Nat.mul_one o).symm) (Nat.le_refl _) (by rw [List.length_map]; omega)
  rw [<- List.map_drop, List.take_of_length_le (by rw [List.length_map, List.length_drop]; omega)] at hr
  exact hr
end Go.Proofs.YtbiboamaigedjaaGreatDoor
namespace Go.Proofs.YtbiboamaigedjaaGreatDoor
open Go.RowKit
set_option linter.unusedVariables false
set_option linter.unusedSimpArgs false
set_option maxRecDepth 8000
set_option maxHeartbeats 2000000

theorem Qga {z : List Int} (hz : Qh z) (hl : z.length = 32) (k : Nat) : PR Tryz.prog gR 37 [.y k 0 32 32] [(k, [.a .u8 z 32])] (.a .u8 (Xw z) 64) := by
  have h := QaJ hz (by omega) k 32 32 hl (Nat.le_refl _) (by unfold maxLen; omega)
  rw [Nat.sub_self, List.replicate_zero, List.append_nil] at h
  exact h
set_option maxHeartbeats 1000000 in
theorem QhD {z : List Int} (hz : Qh z) (hl : z.length = 32) : HM z := fun w L hL hG => by
  have hS := Qga hz hl 0
  have hsl := XS z
  have hC := (QjR (za := (Xw z).take 32) ((Yg z).take 32) (by rw [List.length_take, hsl]; rfl)).up (G' := gR) (fun L w h => DL L w h.pre)
  change PV _ _ _ _ (.a .u8 (Va z) 32) at hC
  have hcl := Zi z
  unfold UR
  generalize Va z = a at *
  generalize Xw z = h at *
  have ht32 : (h.take 32).length = 32 := by rw [List.length_take, hsl]; rfl
  have hrk : ∀ k : Nat, k < 32 -> h.getD (Int.toNat (k : Int)) 0 = Qb (h.take 32) k := fun k hk => by
    rw [Int.toNat_natCast, QJ]; simp [Qb, hk]
  refine S.enter Qw [.a .u8 z 32] gR Tryz.func16 rfl rfl rfl (fun _ => rfl) hL hG ?_
  refine S.g false rfl ?_
  refine S.cr [0] rfl rfl rfl rfl rfl rfl rfl hS ?_
  refine S.go false rfl (by repeat' (first | exact True.intro | refine And.intro ?_ ?_ | assumption | omega | (dsimp only; omega) | (simp only [Nat.add_eq, Nat.mul_eq, Nat.sub_eq, SV.wd]; omega) | exact rfl)) ?_
  refine S.recell 3 [.a .u8 (cpB 32 (h.take 32) 0) 32] rfl (fun ρ => by rw [FX]) ⟨Z6 32 _ 0, trivial⟩ rfl ?_
  refine S.loop [1, 2, 3, 4, 5] (fun k : Nat => [(6, .i .i64 (k : Int))]) (fun k => [(0, [.a .u8 z 32]), (1, [.a .u8 (List.replicate 32 0) 32]), (2, [.a .u8 h 64]), (3, [.a .u8 (cpB 32 (h.take 32) k) 32])]) (fun _ => []) (fun k => k <= 32) (fun k => 32 - k) 0 rfl (fun _ => rfl) (fun _ => rfl) rfl ⟨⟨rfl, rfl⟩, trivial⟩ (by repeat' (first | exact True.intro | refine And.intro ?_ ?_ | exact Z6 _ _ _ | exact hl | exact hsl | exact rfl)) (fun _ _ _ => trivial) (by omega) fun J k hk again => ?_
  have hk' : k <= 32 := hk
  have hlr := Z6 32 (h.take 32) k; have hlr' := Z6 32 (h.take 32) (k + 1)
  refine S.g false rfl ?_
  refine S.cond rfl (fun c5 => ?_) (fun c5 => ?_)
  . have c' : k < 32 := by omega
    refine S.go false rfl (by repeat' (first | exact True.intro | refine And.intro ?_ ?_ | exact hlr | exact hsl | omega | (dsimp only; omega) | exact rfl)) ?_
    refine S.again (again (k + 1) (show k + 1 <= 32 by omega) (show 32 - (k + 1) < 32 - k by omega)) ⟨⟨rfl, by omega⟩, rfl, rfl, rfl, rfl, rfl, trivial⟩ ?_ rfl rfl (fun x hx => hx) rfl (fun ρ W h => h.hs)
    repeat' (first | exact True.intro | refine And.intro ?_ ?_ | exact congrArg (fun z => SV.a .u8 z 32) (QfD c' (hrk k c')) | exact hlr' | exact hl | exact hsl | exact rfl)
  . obtain rfl : k = 32 := by omega
    rw [D2 ht32] at hlr ⊢
    refine S.go false rfl (by repeat' (first | exact True.intro | refine And.intro ?_ ?_ | assumption | omega | (dsimp only; omega) | (simp only [Nat.add_eq, Nat.mul_eq, Nat.sub_eq, SV.wd]; omega) | exact rfl)) ?_
    refine S.drt (G := gR) 4 false [(1, .a .u8 a 32)] [] rfl (by rfl) (by rfl) (by rfl) ?_ (by repeat' (first | exact True.intro | refine And.intro ?_ ?_ | assumption | omega | (dsimp only; omega) | (simp only [Nat.add_eq, Nat.mul_eq, Nat.sub_eq, SV.wd]; omega) | exact rfl))
    refine S.recell 6 [.a .u8 [] 0] rfl (fun ρ => rfl) ⟨rfl, trivial⟩ rfl ?_
    refine S.app (bytes := 1) (K := .u8) (k := 6) (len := 0) (cap := 0) [] (h.drop 32) rfl rfl rfl rfl rfl rfl rfl rfl rfl rfl rfl rfl (Nat.le_refl _) (by decide) (fun ρ w hw => ?_) ?_ ?_ fun cap' hc1 hc2 => ?_
    . exact hw.rdBo (j := 2) (k := 6) (o := 32) (q := 32) rfl rfl (by decide) (fun ρ => by simp [Qp, SV.cs, SV.den]) hsl (by decide)
    . rw [List.length_drop, hsl]; decide
    . rw [List.length_drop, hsl]; decide
    refine S.g false rfl ?_
    have hdl : (h.drop 32).length = 32 := by rw [List.length_drop, hsl]
    refine S.ret rfl rfl fun ρ W hW => ?_
    have hb : Q8 W (ρ.b 8) (Qp ρ [.a .u8 (([] ++ h.drop 32) ++ List.replicate (cap' - (0 + (h.drop 32).length)) 0) cap']) := (hW.cell (k := 8) rfl).1
    have hlow : w.heap.size <= ρ.b 8 := hW.low (8, _) (Zu rfl)
    have hos : OwS 1 W (.slice (some ⟨ρ.b 8, 0, none⟩) 32 cap') ((h.drop 32).map fun z => [Value.int .u8 z]) (ρ.b 8) := by
      refine ⟨by decide, fun r hr => by simp only [List.mem_map] at hr; obtain ⟨x, _, rfl⟩ := hr; rfl, cap', (List.replicate (cap' - 32) 0).map (Value.int .u8), by rw [List.length_map, hdl], by rw [List.length_map, hdl]; omega, hc2, by rw [List.length_map, List.length_replicate, List.length_map, hdl]; omega, ?_⟩
      rw [Qeb, <- List.map_append]
      rw [hdl] at hb
      simpa [Qp, SV.cs] using hb
    refine ⟨(some ⟨ρ.b 8, 0, none⟩, cap'), ?_, ⟨⟨hos.rd fun hx => by have := hL _ hx; omega, fun a n c e ea => ?_⟩, trivial⟩, trivial⟩
    . show Value.tuple _ = Value.tuple _
      simp only [QO, SV.den, hdl]
      rfl
    . simp only [Value.slice.injEq] at e
      rw [<- e.1] at ea; cases ea
theorem DT (seed : List Int) (v : Value) (m : List Int) (t : ByteArray) (W : World) (hT : Hs gR [] W) (hz : Qh seed) (hl : seed.length = 32) (hr : UF .u8 W v m) (hm : Qh m) (ht : t.size <= maxLen) : Calls Tryz.prog 3 #[XN .u8 seed, v, .string t] W fun e W' => e = .returned (.bool true) /\ Below W.heap.size W W' := by
  obtain ⟨a, c, rfl, hf⟩ := QmG hr
  refine Calls.mono ((QiN hz hl hm (QhD hz hl) (t := t) (a0 := a) (c0 := c) rfl).h W [] (fun x h => by cases h) (hT.app ⟨hf, trivial⟩)) fun e W' ⟨u, he, ⟨x, hx, _⟩, hb⟩ => ⟨by rw [he, hx]; rfl, hb⟩
end Go.Proofs.YtbiboamaigedjaaGreatDoor

/- The law on steps of powers. -/
import Derived.Test.YtlhloldjlfcchaaDoorLaw8Q
import Derived.Test.YtlhloldjlfcchaaDoorOrdB
namespace Go.Proofs.YtlhloldjlfcchaaDoor
open Go.RowKit Go.Shelf
set_option linter.unusedVariables false
set_option maxRecDepth 8000

def two32 (x y : Int) : List Int := x :: y :: List.replicate 30 0
theorem built_two (x y : Int) : Tryd.prog.built 22 [(0, .int .u8 x), (1, .int .u8 y)] = some ((two32 x y).map (Value.int .u8)).toArray := by kernel_rfl
theorem at0_zeros (n k : Nat) : at0 (List.replicate n (0 : Int)) k = 0 := by
  simp only [at0, List.getElem?_replicate]; split <;> rfl
theorem valB_unit (x : Int) : ∀ m, valB (unit32 x) (m + 1) = x
  | 0 => by simp [valB, unit32, at0]
  | m + 1 => by
    rw [valB.eq_2, valB_unit x m, show at0 (unit32 x) (m + 1) = at0 (List.replicate 31 0) m from rfl, at0_zeros]; omega
theorem valB_two (x y : Int) : ∀ m, valB (two32 x y) (m + 2) = x + 256 * y
  | 0 => by simp [valB, two32, at0]; omega
  | m + 1 => by
    rw [valB.eq_2, valB_two x y m, show at0 (two32 x y) (m + 2) = at0 (List.replicate 30 0) m from rfl, at0_zeros]; omega
theorem unit_bytes {x : Int} (h : 0 ≤ x ∧ x ≤ 255) : Bytes (unit32 x) := by
  intro y hy
  simp only [unit32, List.mem_cons, List.mem_replicate] at hy
  rcases hy with rfl | hy
  · exact h
  · omega
theorem two_bytes {x z : Int} (h : 0 ≤ x ∧ x ≤ 255) (h2 : 0 ≤ z ∧ z ≤ 255) : Bytes (two32 x z) := by
  intro y hy
  simp only [two32, List.mem_cons, List.mem_replicate] at hy
  rcases hy with rfl | rfl | hy
  · exact h
  · exact h2
  · omega
set_option maxHeartbeats 2000000 in
theorem steps_walk (xb un um us uo p q z r : List Int) (n m t0 t1 : Int) (w : World) (hT : Tab w) (lxb : xb.length = 32) (lun : un.length = 32) (lum : um.length = 32) (lus : us.length = 32) (luo : uo.length = 32) (lp : p.length = 32) (lq : q.length = 32) (lz : z.length = 32) (lr : r.length = 32)
    (bun : Tryd.prog.built 22 [(0, .int .u8 n)] = some (un.map (Value.int .u8)).toArray) (bum : Tryd.prog.built 22 [(0, .int .u8 m)] = some (um.map (Value.int .u8)).toArray)
    (bus : Tryd.prog.built 22 [(0, .int .u8 t0), (1, .int .u8 t1)] = some (us.map (Value.int .u8)).toArray) (buo : Tryd.prog.built 22 [(0, .int .u8 1)] = some (uo.map (Value.int .u8)).toArray)
    (HP1 : ∀ W, Calls Tryd.prog 21 #[aggI .u8 xb, aggI .u8 un] W fun e w' => e = .returned (aggI .u8 p) ∧ Below W.heap.size W w')
    (HP2 : ∀ W, Calls Tryd.prog 21 #[aggI .u8 xb, aggI .u8 um] W fun e w' => e = .returned (aggI .u8 q) ∧ Below W.heap.size W w')
    (HM : ∀ W, Calls Tryd.prog 19 #[aggI .u8 p, aggI .u8 q] W fun e w' => e = .returned (aggI .u8 z) ∧ Below W.heap.size W w')
    (HP3 : ∀ W, Calls Tryd.prog 21 #[aggI .u8 xb, aggI .u8 us] W fun e w' => e = .returned (aggI .u8 z) ∧ Below W.heap.size W w')
    (HP4 : ∀ W, Calls Tryd.prog 21 #[aggI .u8 xb, aggI .u8 uo] W fun e w' => e = .returned (aggI .u8 r) ∧ Below W.heap.size W w')
    (HR : ∀ W, Calls Tryd.prog 15 #[aggI .u8 xb] W fun e w' => e = .returned (aggI .u8 r) ∧ Below W.heap.size W w')
    (hn : 0 ≤ n ∧ n ≤ 255) (hm : 0 ≤ m ∧ m ≤ 255) (hs0 : IntKind.u8.wrap (n + m) = t0) (hs1 : (n + m).tdiv 256 = t1) (hs2 : IntKind.u8.wrap t1 = t1) (hs3 : 0 ≤ t1 ∧ t1 ≤ 1) (hs4 : IntKind.i64.wrap t1 = t1) :
    Calls Tryd.prog 9 #[aggI .u8 xb, .int .u8 n, .int .u8 m] w fun e w' => e = .returned (.bool true) ∧ Below w.heap.size w w' := by
  go_enter Tryd.func9, Tryd.ntmps9
  go_wp2_with (first
    | (with_reducible refine at_op (o := ⟨some 3, _, _, _, _, _⟩) ?_; refine wpList_boxI rfl 22 _ rfl .u8 xb rfl ?_; intro w1 A1 s1 b1)
    | (go_at_call 10; refine (alive_v _ (hT.below b1)).mono ?_; rintro e w2 ⟨rfl, b2⟩; have AX := A1.below b2; have hx1 := A1.lt; have hx2 := b2.size))
  refine wp_region_new [[], [], [1], [0, 2], [], [], [5], [4, 6, 3], [], [], [8, 3, 7, 0, 1, 2, 3, 8, 9], [9, 7, 10, 0, 1, 2, 3, 4, 5, 6, 7, 8, 9, 10]] [some 12, some 13, some 14, some 15, some 16, some 17, some 18, some 19, some 7, some 8, none, none] (w2.heap.size) [⟨8, 10, .u8, 32, p⟩, ⟨9, 11, .u8, 32, q⟩] (fun w' => Arr .u8 w' w.heap.size xb ∧ Below w2.heap.size w2 w') (fun opn f _ => match opn with | 0 => f 0 = aggI .u8 xb | 1 => f 1 = .int .u8 n | 2 => f 2 = aggI .u8 un | 3 => f 3 = aggI .u8 p | 4 => f 4 = aggI .u8 xb | 5 => f 5 = .int .u8 m | 6 => f 6 = aggI .u8 um | 7 => f 7 = aggI .u8 q | _ => True) (by kernel_rfl) (by kernel_rfl) (by kernel_rfl) (by kernel_rfl) rfl (by intro it h it' h' e; simp only [List.mem_cons, List.not_mem_nil, or_false] at h h'; rcases h with rfl | rfl <;> rcases h' with rfl | rfl <;> first | rfl | (simp at e)) (fun v v' hb h => ⟨h.1.below hb, below_then h.2 hb⟩) (fun v h => h.2.size) (fun v B cs hB h => ⟨h.1.rowOther (by omega) _, Below.setRow h.2 (by omega) _⟩) (fun _ _ _ _ h => h) ⟨AX.drew, (Below.refl _ _).drew⟩ ?_ (by intro it h; simp only [List.mem_cons, List.not_mem_nil, or_false] at h; rcases h with rfl | rfl <;> exact ⟨by simp, by simp⟩) ?_
  ·
    refine StepN.plain rfl (fun f W hG hH => ?_) ?_
    · -- 0
      clear hH
      generalize hA : putL _ _ _ _ = A
      have q3 : A.eval (.tmp 3) = .pointer (some ⟨w.heap.size, 0, none⟩) := by rw [← hA]; exact putL_none rfl rfl rfl rfl
      have r3 : A.tmps[3]?.getD undef = .pointer (some ⟨w.heap.size, 0, none⟩) := slot_get q3
      clear hA
      exact Does.loadI rfl 22 _ rfl 32 5 und_a32 info_a32 (w.heap.size) q3 .u8 (xb) (hG.1) (lxb) ⟨Below.refl _ _, rfl⟩
    refine StepN.plain rfl (fun f W hG hH => ?_) ?_
    · -- 1
      clear hH
      generalize hA : putL _ _ _ _ = A
      have q1 : A.eval (.tmp 1) = .int .u8 n := by rw [← hA]; exact putL_none rfl rfl rfl rfl
      have r1 : A.tmps[1]?.getD undef = .int .u8 n := slot_get q1
      clear hA
      refine Does.pure rfl (.int .u8 n) ?_ ⟨Below.refl _ _, rfl⟩
      go_simp
    refine StepN.plain rfl (fun f W hG hH => ?_) ?_
    · -- 2
      obtain ⟨d1, -⟩ : (f 1 = .int .u8 n) ∧ True := hH
      generalize hA : putL _ _ _ _ = A
      have q13 : A.eval (.tmp 13) = .int .u8 n := by rw [← hA]; exact putL_look rfl rfl rfl d1
      have r13 : A.tmps[13]?.getD undef = .int .u8 n := slot_get q13
      clear hA
      exact Does.buildI rfl 22 _ rfl .u8 (un) _ (bun) (by simp [q13]) ⟨Below.refl _ _, rfl⟩
    refine StepN.plain rfl (fun f W hG hH => ?_) ?_
    · -- 3
      obtain ⟨d0, d2, -⟩ : (f 0 = aggI .u8 xb) ∧ (f 2 = aggI .u8 un) ∧ True := hH
      generalize hA : putL _ _ _ _ = A
      have q12 : A.eval (.tmp 12) = aggI .u8 xb := by rw [← hA]; exact putL_look rfl rfl rfl d0
      have r12 : A.tmps[12]?.getD undef = aggI .u8 xb := slot_get q12
      have q14 : A.eval (.tmp 14) = aggI .u8 un := by rw [← hA]; exact putL_look rfl rfl rfl d2
      have r14 : A.tmps[14]?.getD undef = aggI .u8 un := slot_get q14
      clear hA
      refine Does.call rfl _ _ (by go_simp) ((HP1 W).mono ?_)
      rintro e w' ⟨rfl, hb'⟩
      exact ⟨_, rfl, hb', rfl⟩
    refine StepN.plain rfl (fun f W hG hH => ?_) ?_
    · -- 4
      clear hH
      generalize hA : putL _ _ _ _ = A
      have q3 : A.eval (.tmp 3) = .pointer (some ⟨w.heap.size, 0, none⟩) := by rw [← hA]; exact putL_none rfl rfl rfl rfl
      have r3 : A.tmps[3]?.getD undef = .pointer (some ⟨w.heap.size, 0, none⟩) := slot_get q3
      clear hA
      exact Does.loadI rfl 22 _ rfl 32 5 und_a32 info_a32 (w.heap.size) q3 .u8 (xb) (hG.1) (lxb) ⟨Below.refl _ _, rfl⟩
    refine StepN.plain rfl (fun f W hG hH => ?_) ?_
    · -- 5
      clear hH
      generalize hA : putL _ _ _ _ = A
      have q2 : A.eval (.tmp 2) = .int .u8 m := by rw [← hA]; exact putL_none rfl rfl rfl rfl
      have r2 : A.tmps[2]?.getD undef = .int .u8 m := slot_get q2
      clear hA
      refine Does.pure rfl (.int .u8 m) ?_ ⟨Below.refl _ _, rfl⟩
      go_simp
    refine StepN.plain rfl (fun f W hG hH => ?_) ?_
    · -- 6
      obtain ⟨d5, -⟩ : (f 5 = .int .u8 m) ∧ True := hH
      generalize hA : putL _ _ _ _ = A
      have q17 : A.eval (.tmp 17) = .int .u8 m := by rw [← hA]; exact putL_look rfl rfl rfl d5
      have r17 : A.tmps[17]?.getD undef = .int .u8 m := slot_get q17
      clear hA
      exact Does.buildI rfl 22 _ rfl .u8 (um) _ (bum) (by simp [q17]) ⟨Below.refl _ _, rfl⟩
    refine StepN.plain rfl (fun f W hG hH => ?_) ?_
    · -- 7
      obtain ⟨d4, d6, d3, -⟩ : (f 4 = aggI .u8 xb) ∧ (f 6 = aggI .u8 um) ∧ (f 3 = aggI .u8 p) ∧ True := hH
      generalize hA : putL _ _ _ _ = A
      have q16 : A.eval (.tmp 16) = aggI .u8 xb := by rw [← hA]; exact putL_look rfl rfl rfl d4
      have r16 : A.tmps[16]?.getD undef = aggI .u8 xb := slot_get q16
      have q18 : A.eval (.tmp 18) = aggI .u8 um := by rw [← hA]; exact putL_look rfl rfl rfl d6
      have r18 : A.tmps[18]?.getD undef = aggI .u8 um := slot_get q18
      clear hA
      refine Does.call rfl _ _ (by go_simp) ((HP2 W).mono ?_)
      rintro e w' ⟨rfl, hb'⟩
      exact ⟨_, rfl, hb', rfl⟩
    refine StepN.alloc rfl (fun _ _ => trivial) (fun A W => ?_) ?_
    · -- 8
      refine Does.allocI rfl 22 rfl .u8 32 zero_a32 ?_
      intro W1 D1 s1 b1'
      exact ⟨b1', rfl, D1⟩
    refine StepN.alloc rfl (fun _ _ => trivial) (fun A W => ?_) ?_
    · -- 9
      refine Does.allocI rfl 22 rfl .u8 32 zero_a32 ?_
      intro W1 D1 s1 b1'
      exact ⟨b1', rfl, D1⟩
    refine StepN.store rfl (fun _ _ => trivial) (fun f W B hG hH hB hZ => ?_) ?_
    · -- 10
      obtain ⟨-, d3, d7, d0, d1, d2, -, -, -, -⟩ : (True) ∧ (f 3 = aggI .u8 p) ∧ (f 7 = aggI .u8 q) ∧ (f 0 = aggI .u8 xb) ∧ (f 1 = .int .u8 n) ∧ (f 2 = aggI .u8 un) ∧ (f 3 = aggI .u8 p) ∧ (True) ∧ (True) ∧ True := hH
      generalize hA : putL _ _ _ _ = A
      have q7 : A.eval (.tmp 7) = f 8 := by rw [← hA]; exact putL_look rfl rfl rfl rfl
      have r7 : A.tmps[7]?.getD undef = f 8 := slot_get q7
      have q15 : A.eval (.tmp 15) = aggI .u8 p := by rw [← hA]; exact putL_look rfl rfl rfl d3
      have r15 : A.tmps[15]?.getD undef = aggI .u8 p := slot_get q15
      clear hA
      have hB : f 8 = .pointer (some ⟨B, 0, none⟩) := hB
      rw [hB] at q7
      refine Does.storeI rfl 22 _ _ rfl 32 info_a32 B q7 .u8 _ (p) q15 hZ (by rfl) (lp) ?_
      intro A9
      exact ⟨rfl, A9⟩
    refine StepN.store rfl (fun _ _ => trivial) (fun f W B hG hH hB hZ => ?_) ?_
    · -- 11
      obtain ⟨-, d7, -, d0, d1, d2, d3, d4, d5, d6, -, -, -, -, -⟩ : (True) ∧ (f 7 = aggI .u8 q) ∧ (True) ∧ (f 0 = aggI .u8 xb) ∧ (f 1 = .int .u8 n) ∧ (f 2 = aggI .u8 un) ∧ (f 3 = aggI .u8 p) ∧ (f 4 = aggI .u8 xb) ∧ (f 5 = .int .u8 m) ∧ (f 6 = aggI .u8 um) ∧ (f 7 = aggI .u8 q) ∧ (True) ∧ (True) ∧ (True) ∧ True := hH
      generalize hA : putL _ _ _ _ = A
      have q8 : A.eval (.tmp 8) = f 9 := by rw [← hA]; exact putL_look rfl rfl rfl rfl
      have r8 : A.tmps[8]?.getD undef = f 9 := slot_get q8
      have q19 : A.eval (.tmp 19) = aggI .u8 q := by rw [← hA]; exact putL_look rfl rfl rfl d7
      have r19 : A.tmps[19]?.getD undef = aggI .u8 q := slot_get q19
      clear hA
      have hB : f 9 = .pointer (some ⟨B, 0, none⟩) := hB
      rw [hB] at q8
      refine Does.storeI rfl 22 _ _ rfl 32 info_a32 B q8 .u8 _ (q) q19 hZ (by rfl) (lq) ?_
      intro A9
      exact ⟨rfl, A9⟩
    exact trivial
  ·
    intro f W hG hH hN
    obtain ⟨d0, d1, d2, d3, d4, d5, d6, d7, -, -, -, -, -⟩ : (f 0 = aggI .u8 xb) ∧ (f 1 = .int .u8 n) ∧ (f 2 = aggI .u8 un) ∧ (f 3 = aggI .u8 p) ∧ (f 4 = aggI .u8 xb) ∧ (f 5 = .int .u8 m) ∧ (f 6 = aggI .u8 um) ∧ (f 7 = aggI .u8 q) ∧ (True) ∧ (True) ∧ (True) ∧ (True) ∧ True := hH
    rw [show List.range (List.length [[], [], [1], [0, 2], [], [], [5], [4, 6, 3], [], [], [8, 3, 7, 0, 1, 2, 3, 8, 9], [9, 7, 10, 0, 1, 2, 3, 4, 5, 6, 7, 8, 9, 10]]) = [0, 1, 2, 3, 4, 5, 6, 7, 8, 9, 10, 11] from rfl]
    obtain ⟨N1, N2, hN1, hN2, kN1, kN2, hne, AN1, AN2⟩ := hN.two (by simp)
    have hN1 : f 8 = .pointer (some ⟨N1, 0, none⟩) := hN1
    have AN1 : Arr .u8 W N1 (p) := AN1
    have hN2 : f 9 = .pointer (some ⟨N2, 0, none⟩) := hN2
    have AN2 : Arr .u8 W N2 (q) := AN2
    simp only [putL, List.getElem?_cons_zero, List.getElem?_cons_succ, Option.join, Option.bind_some, id_eq, Act.put, List.setIfInBounds_toArray, List.set_cons_zero, List.set_cons_succ, d0, d1, d2, d3, d4, d5, d6, d7, hN1, hN2]
    clear d0 d1 d2 d3 d4 d5 d6 d7 hN1 hN2
    obtain ⟨AX, BB⟩ := hG
    go_wp2
    refine wp_region_ord [[], [], [0, 1], [], [], [4], [], [6], [7], [5, 8], [3, 9, 2], [2, 10], [11, 10], [12], [12], [13, 14, 12, 12], [12], [16, 15, 12], [15, 17, 12], [12, 18], [19, 17, 0, 1, 2, 3, 4, 5, 6, 7, 8, 9, 10, 11, 12, 13, 14, 15, 16, 17, 18, 19]] [some 25, some 26, some 27, some 28, some 29, some 30, some 31, some 32, some 33, some 34, some 35, some 36, some 37, some 38, some 39, some 40, some 41, some 42, some 43, some 44, some 6] 21 (fun b w' => Arr .u8 w' w.heap.size xb ∧ Arr .u8 w' N1 p ∧ Arr .u8 w' N2 q ∧ Below w2.heap.size w2 w') (fun opn f _ => match opn with | 0 => f 0 = aggI .u8 p | 1 => f 1 = aggI .u8 q | 2 => f 2 = aggI .u8 z | 3 => f 3 = aggI .u8 xb | 4 => f 4 = .int .i64 (n + m) | 5 => f 5 = .int .u8 t0 | 6 => f 6 = .int .i64 (n + m) | 7 => f 7 = .int .i64 t1 | 8 => f 8 = .int .u8 t1 | 9 => f 9 = aggI .u8 us | 10 => f 10 = aggI .u8 z | 11 => f 11 = .bool true | 12 => f 12 = .bool true | 13 => f 13 = aggI .u8 xb | 14 => f 14 = aggI .u8 uo | 15 => f 15 = aggI .u8 r | 16 => f 16 = aggI .u8 xb | 17 => f 17 = aggI .u8 r | 18 => f 18 = .bool true | 19 => f 19 = .bool true | 20 => f 20 = .bool true | _ => True) (fun _ _ _ => True) (by kernel_rfl) (by kernel_rfl) (by kernel_rfl) (by kernel_rfl) (fun b v v' hb h => ⟨h.1.below hb, h.2.1.below hb, h.2.2.1.below hb, below_then h.2.2.2 hb⟩) (fun _ _ _ _ _ h => h) (fun _ _ _ _ _ _ _ h => h) ⟨AX.drew, AN1.drew, AN2.drew, BB.drew⟩ ?_ ?_
    ·
      refine StepL.other (k := 0) rfl (fun b f W hb hG hH => ?_) ?_
      · -- 0
        clear hH
        generalize hA : putL _ _ _ _ = A
        have q7 : A.eval (.tmp 7) = .pointer (some ⟨N1, 0, none⟩) := by rw [← hA]; exact putL_none rfl rfl rfl rfl
        have r7 : A.tmps[7]?.getD undef = .pointer (some ⟨N1, 0, none⟩) := slot_get q7
        clear hA
        exact Does.loadI rfl 22 _ rfl 32 5 und_a32 info_a32 (N1) q7 .u8 (p) (hG.2.1) (lp) ⟨Below.refl _ _, rfl⟩
      refine StepL.other (k := 1) rfl (fun b f W hb hG hH => ?_) ?_
      · -- 1
        clear hH
        generalize hA : putL _ _ _ _ = A
        have q8 : A.eval (.tmp 8) = .pointer (some ⟨N2, 0, none⟩) := by rw [← hA]; exact putL_none rfl rfl rfl rfl
        have r8 : A.tmps[8]?.getD undef = .pointer (some ⟨N2, 0, none⟩) := slot_get q8
        clear hA
        exact Does.loadI rfl 22 _ rfl 32 5 und_a32 info_a32 (N2) q8 .u8 (q) (hG.2.2.1) (lq) ⟨Below.refl _ _, rfl⟩
      refine StepL.other (k := 2) rfl (fun b f W hb hG hH => ?_) ?_
      · -- 2
        obtain ⟨d0, d1, -⟩ : (f 0 = aggI .u8 p) ∧ (f 1 = aggI .u8 q) ∧ True := hH
        generalize hA : putL _ _ _ _ = A
        have q25 : A.eval (.tmp 25) = aggI .u8 p := by rw [← hA]; exact putL_look rfl rfl rfl d0
        have r25 : A.tmps[25]?.getD undef = aggI .u8 p := slot_get q25
        have q26 : A.eval (.tmp 26) = aggI .u8 q := by rw [← hA]; exact putL_look rfl rfl rfl d1
        have r26 : A.tmps[26]?.getD undef = aggI .u8 q := slot_get q26
        clear hA
        refine Does.call rfl _ _ (by go_simp) ((HM W).mono ?_)
        rintro e w' ⟨rfl, hb'⟩
        exact ⟨_, rfl, hb', rfl⟩
      refine StepL.other (k := 3) rfl (fun b f W hb hG hH => ?_) ?_
      · -- 3
        clear hH
        generalize hA : putL _ _ _ _ = A
        have q3 : A.eval (.tmp 3) = .pointer (some ⟨w.heap.size, 0, none⟩) := by rw [← hA]; exact putL_none rfl rfl rfl rfl
        have r3 : A.tmps[3]?.getD undef = .pointer (some ⟨w.heap.size, 0, none⟩) := slot_get q3
        clear hA
        exact Does.loadI rfl 22 _ rfl 32 5 und_a32 info_a32 (w.heap.size) q3 .u8 (xb) (hG.1) (lxb) ⟨Below.refl _ _, rfl⟩
      refine StepL.other (k := 4) rfl (fun b f W hb hG hH => ?_) ?_
      · -- 4
        clear hH
        generalize hA : putL _ _ _ _ = A
        have q9 : A.eval (.tmp 9) = .int .i64 (n + m) := by rw [← hA]; exact putL_none rfl rfl rfl rfl
        have r9 : A.tmps[9]?.getD undef = .int .i64 (n + m) := slot_get q9
        clear hA
        refine Does.pure rfl (.int .i64 (n + m)) ?_ ⟨Below.refl _ _, rfl⟩
        go_simp
      refine StepL.other (k := 5) rfl (fun b f W hb hG hH => ?_) ?_
      · -- 5
        obtain ⟨d4, -⟩ : (f 4 = .int .i64 (n + m)) ∧ True := hH
        generalize hA : putL _ _ _ _ = A
        have q29 : A.eval (.tmp 29) = .int .i64 (n + m) := by rw [← hA]; exact putL_look rfl rfl rfl d4
        have r29 : A.tmps[29]?.getD undef = .int .i64 (n + m) := slot_get q29
        clear hA
        refine Does.pure rfl (.int .u8 t0) ?_ ⟨Below.refl _ _, rfl⟩
        go_simp
      refine StepL.other (k := 6) rfl (fun b f W hb hG hH => ?_) ?_
      · -- 6
        clear hH
        generalize hA : putL _ _ _ _ = A
        have q9 : A.eval (.tmp 9) = .int .i64 (n + m) := by rw [← hA]; exact putL_none rfl rfl rfl rfl
        have r9 : A.tmps[9]?.getD undef = .int .i64 (n + m) := slot_get q9
        clear hA
        refine Does.pure rfl (.int .i64 (n + m)) ?_ ⟨Below.refl _ _, rfl⟩
        go_simp
      refine StepL.other (k := 7) rfl (fun b f W hb hG hH => ?_) ?_
      · -- 7
        obtain ⟨d6, -⟩ : (f 6 = .int .i64 (n + m)) ∧ True := hH
        generalize hA : putL _ _ _ _ = A
        have q31 : A.eval (.tmp 31) = .int .i64 (n + m) := by rw [← hA]; exact putL_look rfl rfl rfl d6
        have r31 : A.tmps[31]?.getD undef = .int .i64 (n + m) := slot_get q31
        clear hA
        refine Does.pure rfl (.int .i64 t1) ?_ ⟨Below.refl _ _, rfl⟩
        go_simp
      refine StepL.other (k := 8) rfl (fun b f W hb hG hH => ?_) ?_
      · -- 8
        obtain ⟨d7, -⟩ : (f 7 = .int .i64 t1) ∧ True := hH
        generalize hA : putL _ _ _ _ = A
        have q32 : A.eval (.tmp 32) = .int .i64 t1 := by rw [← hA]; exact putL_look rfl rfl rfl d7
        have r32 : A.tmps[32]?.getD undef = .int .i64 t1 := slot_get q32
        clear hA
        refine Does.pure rfl (.int .u8 t1) ?_ ⟨Below.refl _ _, rfl⟩
        go_simp
      refine StepL.other (k := 9) rfl (fun b f W hb hG hH => ?_) ?_
      · -- 9
        obtain ⟨d5, d8, -⟩ : (f 5 = .int .u8 t0) ∧ (f 8 = .int .u8 t1) ∧ True := hH
        generalize hA : putL _ _ _ _ = A
        have q30 : A.eval (.tmp 30) = .int .u8 t0 := by rw [← hA]; exact putL_look rfl rfl rfl d5
        have r30 : A.tmps[30]?.getD undef = .int .u8 t0 := slot_get q30
        have q33 : A.eval (.tmp 33) = .int .u8 t1 := by rw [← hA]; exact putL_look rfl rfl rfl d8
        have r33 : A.tmps[33]?.getD undef = .int .u8 t1 := slot_get q33
        clear hA
        exact Does.buildI rfl 22 _ rfl .u8 (us) _ (bus) (by simp [q30, q33]) ⟨Below.refl _ _, rfl⟩
      refine StepL.other (k := 10) rfl (fun b f W hb hG hH => ?_) ?_
      · -- 10
        obtain ⟨d3, d9, d2, -⟩ : (f 3 = aggI .u8 xb) ∧ (f 9 = aggI .u8 us) ∧ (f 2 = aggI .u8 z) ∧ True := hH
        generalize hA : putL _ _ _ _ = A
        have q28 : A.eval (.tmp 28) = aggI .u8 xb := by rw [← hA]; exact putL_look rfl rfl rfl d3
        have r28 : A.tmps[28]?.getD undef = aggI .u8 xb := slot_get q28
        have q34 : A.eval (.tmp 34) = aggI .u8 us := by rw [← hA]; exact putL_look rfl rfl rfl d9
        have r34 : A.tmps[34]?.getD undef = aggI .u8 us := slot_get q34
        clear hA
        refine Does.call rfl _ _ (by go_simp) ((HP3 W).mono ?_)
        rintro e w' ⟨rfl, hb'⟩
        exact ⟨_, rfl, hb', rfl⟩
      refine StepL.other (k := 11) rfl (fun b f W hb hG hH => ?_) ?_
      · -- 11
        obtain ⟨d2, d10, -⟩ : (f 2 = aggI .u8 z) ∧ (f 10 = aggI .u8 z) ∧ True := hH
        generalize hA : putL _ _ _ _ = A
        have q27 : A.eval (.tmp 27) = aggI .u8 z := by rw [← hA]; exact putL_look rfl rfl rfl d2
        have r27 : A.tmps[27]?.getD undef = aggI .u8 z := slot_get q27
        have q35 : A.eval (.tmp 35) = aggI .u8 z := by rw [← hA]; exact putL_look rfl rfl rfl d10
        have r35 : A.tmps[35]?.getD undef = aggI .u8 z := slot_get q35
        clear hA
        exact Does.eqlI rfl 22 _ 5 _ _ rfl 32 und_a32 .u8 .u8 Tryd.underlying5 (by kernel_rfl) (by kernel_rfl) (z) (z) q27 q35 (lz) (lz) true (by simp) ⟨Below.refl _ _, rfl⟩
      refine StepL.other (k := 12) rfl (fun b f W hb hG hH => ?_) ?_
      · -- 12
        obtain ⟨d11, d10, -⟩ : (f 11 = .bool true) ∧ (f 10 = aggI .u8 z) ∧ True := hH
        generalize hA : putL _ _ _ _ = A
        have q36 : A.eval (.tmp 36) = .bool true := by rw [← hA]; exact putL_look rfl rfl rfl d11
        have r36 : A.tmps[36]?.getD undef = .bool true := slot_get q36
        clear hA
        refine Does.pure rfl (.bool true) ?_ ⟨Below.refl _ _, rfl⟩
        go_simp
      refine StepL.other (k := 13) rfl (fun b f W hb hG hH => ?_) ?_
      · -- 13
        obtain ⟨d12, -⟩ : (f 12 = .bool true) ∧ True := hH
        generalize hA : putL _ _ _ _ = A
        have q3 : A.eval (.tmp 3) = .pointer (some ⟨w.heap.size, 0, none⟩) := by rw [← hA]; exact putL_none rfl rfl rfl rfl
        have r3 : A.tmps[3]?.getD undef = .pointer (some ⟨w.heap.size, 0, none⟩) := slot_get q3
        have q37 : A.eval (.tmp 37) = .bool true := by rw [← hA]; exact putL_look rfl rfl rfl d12
        have r37 : A.tmps[37]?.getD undef = .bool true := slot_get q37
        clear hA
        exact Does.loadI (wanted_of (b := true) rfl rfl q37) 22 _ rfl 32 5 und_a32 info_a32 (w.heap.size) q3 .u8 (xb) (hG.1) (lxb) ⟨Below.refl _ _, rfl⟩
      refine StepL.other (k := 14) rfl (fun b f W hb hG hH => ?_) ?_
      · -- 14
        obtain ⟨d12, -⟩ : (f 12 = .bool true) ∧ True := hH
        generalize hA : putL _ _ _ _ = A
        have q37 : A.eval (.tmp 37) = .bool true := by rw [← hA]; exact putL_look rfl rfl rfl d12
        have r37 : A.tmps[37]?.getD undef = .bool true := slot_get q37
        clear hA
        exact Does.buildI (wanted_of (b := true) rfl rfl q37) 22 _ rfl .u8 (uo) _ (buo) (rfl) ⟨Below.refl _ _, rfl⟩
      refine StepL.other (k := 15) rfl (fun b f W hb hG hH => ?_) ?_
      · -- 15
        obtain ⟨d13, d14, d12, -, -⟩ : (f 13 = aggI .u8 xb) ∧ (f 14 = aggI .u8 uo) ∧ (f 12 = .bool true) ∧ (f 12 = .bool true) ∧ True := hH
        generalize hA : putL _ _ _ _ = A
        have q38 : A.eval (.tmp 38) = aggI .u8 xb := by rw [← hA]; exact putL_look rfl rfl rfl d13
        have r38 : A.tmps[38]?.getD undef = aggI .u8 xb := slot_get q38
        have q39 : A.eval (.tmp 39) = aggI .u8 uo := by rw [← hA]; exact putL_look rfl rfl rfl d14
        have r39 : A.tmps[39]?.getD undef = aggI .u8 uo := slot_get q39
        have q37 : A.eval (.tmp 37) = .bool true := by rw [← hA]; exact putL_look rfl rfl rfl d12
        have r37 : A.tmps[37]?.getD undef = .bool true := slot_get q37
        clear hA
        refine Does.call (wanted_of (b := true) rfl rfl q37) _ _ (by go_simp) ((HP4 W).mono ?_)
        rintro e w' ⟨rfl, hb'⟩
        exact ⟨_, rfl, hb', rfl⟩
      refine StepL.other (k := 16) rfl (fun b f W hb hG hH => ?_) ?_
      · -- 16
        obtain ⟨d12, -⟩ : (f 12 = .bool true) ∧ True := hH
        generalize hA : putL _ _ _ _ = A
        have q3 : A.eval (.tmp 3) = .pointer (some ⟨w.heap.size, 0, none⟩) := by rw [← hA]; exact putL_none rfl rfl rfl rfl
        have r3 : A.tmps[3]?.getD undef = .pointer (some ⟨w.heap.size, 0, none⟩) := slot_get q3
        have q37 : A.eval (.tmp 37) = .bool true := by rw [← hA]; exact putL_look rfl rfl rfl d12
        have r37 : A.tmps[37]?.getD undef = .bool true := slot_get q37
        clear hA
        exact Does.loadI (wanted_of (b := true) rfl rfl q37) 22 _ rfl 32 5 und_a32 info_a32 (w.heap.size) q3 .u8 (xb) (hG.1) (lxb) ⟨Below.refl _ _, rfl⟩
      refine StepL.other (k := 17) rfl (fun b f W hb hG hH => ?_) ?_
      · -- 17
        obtain ⟨d16, d15, d12, -⟩ : (f 16 = aggI .u8 xb) ∧ (f 15 = aggI .u8 r) ∧ (f 12 = .bool true) ∧ True := hH
        generalize hA : putL _ _ _ _ = A
        have q41 : A.eval (.tmp 41) = aggI .u8 xb := by rw [← hA]; exact putL_look rfl rfl rfl d16
        have r41 : A.tmps[41]?.getD undef = aggI .u8 xb := slot_get q41
        have q37 : A.eval (.tmp 37) = .bool true := by rw [← hA]; exact putL_look rfl rfl rfl d12
        have r37 : A.tmps[37]?.getD undef = .bool true := slot_get q37
        clear hA
        refine Does.call (wanted_of (b := true) rfl rfl q37) _ _ (by go_simp) ((HR W).mono ?_)
        rintro e w' ⟨rfl, hb'⟩
        exact ⟨_, rfl, hb', rfl⟩
      refine StepL.other (k := 18) rfl (fun b f W hb hG hH => ?_) ?_
      · -- 18
        obtain ⟨d15, d17, d12, -⟩ : (f 15 = aggI .u8 r) ∧ (f 17 = aggI .u8 r) ∧ (f 12 = .bool true) ∧ True := hH
        generalize hA : putL _ _ _ _ = A
        have q40 : A.eval (.tmp 40) = aggI .u8 r := by rw [← hA]; exact putL_look rfl rfl rfl d15
        have r40 : A.tmps[40]?.getD undef = aggI .u8 r := slot_get q40
        have q42 : A.eval (.tmp 42) = aggI .u8 r := by rw [← hA]; exact putL_look rfl rfl rfl d17
        have r42 : A.tmps[42]?.getD undef = aggI .u8 r := slot_get q42
        have q37 : A.eval (.tmp 37) = .bool true := by rw [← hA]; exact putL_look rfl rfl rfl d12
        have r37 : A.tmps[37]?.getD undef = .bool true := slot_get q37
        clear hA
        exact Does.eqlI (wanted_of (b := true) rfl rfl q37) 22 _ 5 _ _ rfl 32 und_a32 .u8 .u8 Tryd.underlying5 (by kernel_rfl) (by kernel_rfl) (r) (r) q40 q42 (lr) (lr) true (by simp) ⟨Below.refl _ _, rfl⟩
      refine StepL.other (k := 19) rfl (fun b f W hb hG hH => ?_) ?_
      · -- 19
        obtain ⟨d12, d18, -⟩ : (f 12 = .bool true) ∧ (f 18 = .bool true) ∧ True := hH
        generalize hA : putL _ _ _ _ = A
        have q37 : A.eval (.tmp 37) = .bool true := by rw [← hA]; exact putL_look rfl rfl rfl d12
        have r37 : A.tmps[37]?.getD undef = .bool true := slot_get q37
        have q43 : A.eval (.tmp 43) = .bool true := by rw [← hA]; exact putL_look rfl rfl rfl d18
        have r43 : A.tmps[43]?.getD undef = .bool true := slot_get q43
        clear hA
        refine Does.pure rfl (.bool true) ?_ ⟨Below.refl _ _, rfl⟩
        go_simp
      refine StepL.other (k := 20) rfl (fun b f W hb hG hH => ?_) ?_
      · -- 20
        obtain ⟨d19, d17, d0, d1, d2, d3, d4, d5, d6, d7, d8, d9, d10, d11, d12, d13, d14, d15, d16, -, d18, -, -⟩ : (f 19 = .bool true) ∧ (f 17 = aggI .u8 r) ∧ (f 0 = aggI .u8 p) ∧ (f 1 = aggI .u8 q) ∧ (f 2 = aggI .u8 z) ∧ (f 3 = aggI .u8 xb) ∧ (f 4 = .int .i64 (n + m)) ∧ (f 5 = .int .u8 t0) ∧ (f 6 = .int .i64 (n + m)) ∧ (f 7 = .int .i64 t1) ∧ (f 8 = .int .u8 t1) ∧ (f 9 = aggI .u8 us) ∧ (f 10 = aggI .u8 z) ∧ (f 11 = .bool true) ∧ (f 12 = .bool true) ∧ (f 13 = aggI .u8 xb) ∧ (f 14 = aggI .u8 uo) ∧ (f 15 = aggI .u8 r) ∧ (f 16 = aggI .u8 xb) ∧ (f 17 = aggI .u8 r) ∧ (f 18 = .bool true) ∧ (f 19 = .bool true) ∧ True := hH
        generalize hA : putL _ _ _ _ = A
        have q44 : A.eval (.tmp 44) = .bool true := by rw [← hA]; exact putL_look rfl rfl rfl d19
        have r44 : A.tmps[44]?.getD undef = .bool true := slot_get q44
        clear hA
        refine Does.pure rfl (.bool true) ?_ ⟨Below.refl _ _, rfl⟩
        go_simp
      exact trivial
    ·
      intro f W hG hH
      obtain ⟨d0, d1, d2, d3, d4, d5, d6, d7, d8, d9, d10, d11, d12, d13, d14, d15, d16, d17, d18, d19, d20, -⟩ : (f 0 = aggI .u8 p) ∧ (f 1 = aggI .u8 q) ∧ (f 2 = aggI .u8 z) ∧ (f 3 = aggI .u8 xb) ∧ (f 4 = .int .i64 (n + m)) ∧ (f 5 = .int .u8 t0) ∧ (f 6 = .int .i64 (n + m)) ∧ (f 7 = .int .i64 t1) ∧ (f 8 = .int .u8 t1) ∧ (f 9 = aggI .u8 us) ∧ (f 10 = aggI .u8 z) ∧ (f 11 = .bool true) ∧ (f 12 = .bool true) ∧ (f 13 = aggI .u8 xb) ∧ (f 14 = aggI .u8 uo) ∧ (f 15 = aggI .u8 r) ∧ (f 16 = aggI .u8 xb) ∧ (f 17 = aggI .u8 r) ∧ (f 18 = .bool true) ∧ (f 19 = .bool true) ∧ (f 20 = .bool true) ∧ True := hH
      rw [show List.range (List.length [[], [], [0, 1], [], [], [4], [], [6], [7], [5, 8], [3, 9, 2], [2, 10], [11, 10], [12], [12], [13, 14, 12, 12], [12], [16, 15, 12], [15, 17, 12], [12, 18], [19, 17, 0, 1, 2, 3, 4, 5, 6, 7, 8, 9, 10, 11, 12, 13, 14, 15, 16, 17, 18, 19]]) = [0, 1, 2, 3, 4, 5, 6, 7, 8, 9, 10, 11, 12, 13, 14, 15, 16, 17, 18, 19, 20] from rfl]
      simp only [putL, List.getElem?_cons_zero, List.getElem?_cons_succ, Option.join, Option.bind_some, id_eq, Act.put, List.setIfInBounds_toArray, List.set_cons_zero, List.set_cons_succ, d0, d1, d2, d3, d4, d5, d6, d7, d8, d9, d10, d11, d12, d13, d14, d15, d16, d17, d18, d19, d20]
      clear d0 d1 d2 d3 d4 d5 d6 d7 d8 d9 d10 d11 d12 d13 d14 d15 d16 d17 d18 d19 d20
      go_wp2
      go_ret
      exact ⟨rfl, below_then (below_then b1 b2) hG.2.2.2⟩
theorem law_steps (xb : List Int) (n m : Int) (w : World) (hT : Tab w) (hxb : Bytes xb) (hxl : xb.length = 32) (hn : (Lit.int .u8 n).wf = true) (hm : (Lit.int .u8 m).wf = true) :
    Calls Tryd.prog 9 #[aggI .u8 xb, .int .u8 n, .int .u8 m] w fun e w' => e = .returned (.bool true) ∧ Below w.heap.size w w' := by
  replace hn : 0 ≤ n ∧ n ≤ 255 := by simpa [Lit.wf, IntKind.min, IntKind.max, IntKind.signed, IntKind.bits] using hn
  replace hm : 0 ≤ m ∧ m ≤ 255 := by simpa [Lit.wf, IntKind.min, IntKind.max, IntKind.signed, IntKind.bits] using hm
  have nl := numB_length
  have nb := numB_bytes
  have HP1 := fun W => power_v xb (unit32 n) W hxb (unit_bytes hn) hxl rfl
  have HP2 := fun W => power_v xb (unit32 m) W hxb (unit_bytes hm) hxl rfl
  have HP3 := fun W => power_v xb (two32 ((n + m) % 256) ((n + m) / 256)) W hxb (two_bytes (by omega) (by omega)) hxl rfl
  have HP4 := fun W => power_v xb (unit32 1) W hxb (unit_bytes (by omega)) hxl rfl
  rw [valB_unit n 31] at HP1
  rw [valB_unit m 31] at HP2
  rw [valB_two _ _ 30, show (n + m) % 256 + 256 * ((n + m) / 256) = n + m by omega] at HP3
  rw [valB_unit 1 31, show Int.toNat 1 = 1 from rfl, Int.pow_succ, Int.pow_zero, Int.one_mul, Int.emod_emod_of_dvd _ (Int.dvd_refl _)] at HP4
  have HM := fun W => mul_v (numB ((valB xb 32 % pV) ^ n.toNat % pV)) (numB ((valB xb 32 % pV) ^ m.toNat % pV)) W (nb _) (nb _) (nl _) (nl _)
  rw [vnB, vnB, ← Int.mul_emod, ← Int.pow_add, show n.toNat + m.toNat = (n + m).toNat by omega] at HM
  have ht1 : (n + m) / 256 = 0 ∨ (n + m) / 256 = 1 := by omega
  refine steps_walk xb (unit32 n) (unit32 m) (two32 ((n + m) % 256) ((n + m) / 256)) (unit32 1) _ _ _ _ n m _ _ w hT hxl rfl rfl rfl rfl (nl _) (nl _) (nl _) (nl _) (built_unit n) (built_unit m) (built_two _ _) (built_unit 1) HP1 HP2 HM HP3 HP4 (fun W => reduce_v xb W hxb hxl) hn hm ?_ ?_ ?_ (by omega) ?_
  · simp [IntKind.wrap, IntKind.bits, IntKind.signed]
  · exact Int.tdiv_eq_ediv_of_nonneg (by omega)
  · rcases ht1 with h | h <;> rw [h] <;> rfl
  · rcases ht1 with h | h <;> rw [h] <;> rfl
end Go.Proofs.YtlhloldjlfcchaaDoor

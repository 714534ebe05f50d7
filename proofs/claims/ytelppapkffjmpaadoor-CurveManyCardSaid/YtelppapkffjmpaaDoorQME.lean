/- Merged: The root of a number of five limbs, walked. The root in package field: of limbs, of bytes. Powers modulo a number, reckoned by squaring; the roots of 4 and of 2. The laws' fixed fact. -/
import Derived.Lib.SlBuf
import Derived.Test.YtelppapkffjmpaaDoorQMD
section
namespace Go.Proofs.YtelppapkffjmpaaDoor
open Go.RowKit Go.Shelf
set_option linter.unusedVariables false
set_option maxRecDepth 8000

set_option maxHeartbeats 8000000 in
theorem root_walk (ok0 ok1 ok od0 od1 : Bool) (xs c0 sqa c1 sqb n0 n1 rl : List Int) (w : World) (hxl : xs.length = 5) (l0 : c0.length = 5) (l1 : c1.length = 5) (m0 : n0.length = 5) (m1 : n1.length = 5)
  (PW : ∀ w, Calls Tryd.prog 90 #[aggI .u64 xs, aggI .u8 (powN 254 15)] w fun e w' => e = .returned (aggI .u64 c0) ∧ Below w.heap.size w w')
  (T0 : ∀ w, Calls Tryd.prog 49 #[aggI .u64 c0, aggI .u64 c0] w fun e w' => e = .returned (aggI .u64 sqa) ∧ Below w.heap.size w w')
  (S0 : ∀ w, Calls Tryd.prog 70 #[aggI .u64 sqa, aggI .u64 xs] w fun e w' => e = .returned (.bool ok0) ∧ Below w.heap.size w w')
  (T1 : ∀ w, Calls Tryd.prog 49 #[aggI .u64 c0, .agg #[.int .u64 1718705420411056, .int .u64 234908883556509, .int .u64 2233514472574048, .int .u64 2117202627021982, .int .u64 765476049583133]] w fun e w' => e = .returned (aggI .u64 c1) ∧ Below w.heap.size w w')
  (T2 : ∀ w, Calls Tryd.prog 49 #[aggI .u64 c1, aggI .u64 c1] w fun e w' => e = .returned (aggI .u64 sqb) ∧ Below w.heap.size w w')
  (S1 : ∀ w, Calls Tryd.prog 70 #[aggI .u64 sqb, aggI .u64 xs] w fun e w' => e = .returned (.bool ok1) ∧ Below w.heap.size w w')
  (OD0 : ∀ w, Calls Tryd.prog 76 #[aggI .u64 c0] w fun e w' => e = .returned (.bool od0) ∧ Below w.heap.size w w') (OD1 : ∀ w, Calls Tryd.prog 76 #[aggI .u64 c1] w fun e w' => e = .returned (.bool od1) ∧ Below w.heap.size w w')
  (NG0 : ∀ w, Calls Tryd.prog 62 #[aggI .u64 c0] w fun e w' => e = .returned (aggI .u64 n0) ∧ Below w.heap.size w w') (NG1 : ∀ w, Calls Tryd.prog 62 #[aggI .u64 c1] w fun e w' => e = .returned (aggI .u64 n1) ∧ Below w.heap.size w w')
  (hA1 : Hid (ok0 = true → od0 = true → rl = n0 ∧ ok = true)) (hA0 : Hid (ok0 = true → od0 = false → rl = c0 ∧ ok = true))
  (hB1 : Hid (ok0 = false → ok1 = true → od1 = true → rl = n1 ∧ ok = true)) (hB0 : Hid (ok0 = false → ok1 = true → od1 = false → rl = c1 ∧ ok = true))
  (hC : Hid (ok0 = false → ok1 = false → rl = [0, 0, 0, 0, 0] ∧ ok = false))
  (g0 : w.cell? ⟨2, 0, none⟩ = some (.int .u64 1718705420411056))
  (g1 : w.cell? ⟨2, 1, none⟩ = some (.int .u64 234908883556509))
  (g2 : w.cell? ⟨2, 2, none⟩ = some (.int .u64 2233514472574048))
  (g3 : w.cell? ⟨2, 3, none⟩ = some (.int .u64 2117202627021982))
  (g4 : w.cell? ⟨2, 4, none⟩ = some (.int .u64 765476049583133)) :
  Calls Tryd.prog 69 #[aggI .u64 xs] w fun e w' => e = .returned (.tuple #[aggI .u64 rl, .bool ok]) ∧ Below w.heap.size w w' := by
 go_enter Tryd.func69, Tryd.ntmps69
 go_wp2_with (first
  | (with_reducible refine at_n 1 ?_; refine wpList_boxI rfl 42 _ rfl .u64 xs rfl ?_; intro w1 A1 s1 b1)
  | (with_reducible refine at_n 2 ?_; refine wpList_allocI rfl 42 rfl .u64 5 zero_limbs ?_; intro w2 A2 s2 b2; have X2 := A1.below b2))
 refine wp_region_ord [[], [], [0, 1, 1], [], [3, 2, 2, 0, 1, 2, 3]] [some 5, some 6, some 7, some 4, none] 4 (fun b w' => Arr .u64 w' w.heap.size xs ∧ Arr .u64 w' w1.heap.size (List.replicate 5 0) ∧ Below w2.heap.size w2 w') (fun opn f wo => match opn with | 0 => f 0 = aggI .u64 xs | 1 => f 1 = aggI .u8 (powN 254 15) | 2 => f 2 = aggI .u64 c0 | 3 => ∃ B, f 3 = .pointer (some ⟨B, 0, none⟩) ∧ w2.heap.size ≤ B ∧ ∃ zs : List Int, zs.length = 5 ∧ Arr .u64 wo B zs | 4 => ∃ B, f 3 = .pointer (some ⟨B, 0, none⟩) ∧ w2.heap.size ≤ B ∧ Arr .u64 wo B (c0) | _ => True) (fun f v v' => ∃ B, f 3 = .pointer (some ⟨B, 0, none⟩) ∧ w2.heap.size ≤ B ∧ ∃ ys : List Int, ys.length = 5 ∧ v' = v.setRow B (ys.map (Value.int .u64)).toArray) (by kernel_rfl) (by kernel_rfl) (by kernel_rfl) (by kernel_rfl) (fun b v v' hb h => ⟨h.1.below hb, h.2.1.below hb, below_then h.2.2 hb⟩) (fun opn f v v' hb h => by
  match opn, h with
  | 3, h => obtain ⟨B, h1, h2, zs, h3, h4⟩ := h; exact ⟨B, h1, h2, zs, h3, h4.below hb⟩
  | 4, h => obtain ⟨B, h1, h2, h3⟩ := h; exact ⟨B, h1, h2, h3.below hb⟩
  | 0, h => exact h
  | 1, h => exact h
  | 2, h => exact h
  | _ + 5, h => trivial)
  (fun opn f f' v v' hne hS h => by
  obtain ⟨B', -, hB', ys, hys, rfl⟩ := hS
  match opn, hne, h with
  | 3, _, h =>
   obtain ⟨B, h1, h2, zs, h3, h4⟩ := h
   by_cases e : B = B'
   ·
    subst e; exact ⟨B, h1, h2, ys, hys, h4.setRow ys⟩
   ·
    exact ⟨B, h1, h2, zs, h3, h4.rowOther e _⟩
  | 4, hne, _ => exact (hne rfl).elim
  | 0, _, h => exact h
  | 1, _, h => exact h
  | 2, _, h => exact h
  | _ + 5, _, h => trivial) ⟨X2.drew, A2.drew, (Below.refl _ _).drew⟩ ?_ ?_
 ·
  refine StepL.other (k := 0) rfl (fun b f W hb hG hH => ?_) ?_
  ·
   obtain rfl := hb rfl
   clear hH
   generalize hA : putL _ _ _ _ = A
   have q1 : A.eval (.tmp 1) = .pointer (some ⟨w.heap.size, 0, none⟩) := putLn hA 1 rfl rfl rfl
   have r1 := slot_get q1
   clear hA
   exact Does.loadI rfl 42 _ rfl 5 34 und_limbs info_limbs (w.heap.size) q1 .u64 (xs) (hG.1) (hxl) ⟨Below.refl _ _, rfl⟩
  refine StepL.other (k := 1) rfl (fun b f W hb hG hH => ?_) ?_
  ·
   obtain rfl := hb rfl
   clear hH
   generalize hA : putL _ _ _ _ = A
   clear hA
   refine Does.call rfl _ _ (by go_simp) ((pow_any 254 15 W).mono ?_)
   rintro e w' ⟨rfl, hb'⟩
   exact ⟨_, rfl, hb', rfl⟩
  refine StepL.other (k := 2) rfl (fun b f W hb hG hH => ?_) ?_
  ·
   obtain rfl := hb rfl
   obtain ⟨d0, d1, -, -⟩ := hH
   generalize hA : putL _ _ _ _ = A
   have q5 := putLl hA 5 d0 rfl rfl
   have r5 := slot_get q5
   have q6 := putLl hA 6 d1 rfl rfl
   have r6 := slot_get q6
   clear hA
   refine Does.call rfl _ _ (by go_simp) ((PW W).mono ?_)
   rintro e w' ⟨rfl, hb'⟩
   exact ⟨_, rfl, hb', rfl⟩
  refine StepL.other (k := 3) rfl (fun b f W hb hG hH => ?_) ?_
  ·
   obtain rfl := hb rfl
   clear hH
   generalize hA : putL _ _ _ _ = A
   clear hA
   refine Does.allocI rfl 42 rfl .u64 5 zero_limbs ?_
   intro W1 D1 s1 b1'
   exact ⟨b1', _, rfl, hG.2.2.size, _, by simp, D1⟩
  refine StepL.self (k := 4) rfl (fun f W hG hH => ?_) ?_
  ·
   obtain ⟨d3, d2, -, d0, d1, -, -, -⟩ : (∃ B, f 3 = .pointer (some ⟨B, 0, none⟩) ∧ w2.heap.size ≤ B ∧ ∃ zs : List Int, zs.length = 5 ∧ Arr .u64 W B zs) ∧ (f 2 = aggI .u64 c0) ∧ (f 2 = aggI .u64 c0) ∧ (f 0 = aggI .u64 xs) ∧ (f 1 = aggI .u8 (powN 254 15)) ∧ (f 2 = aggI .u64 c0) ∧ (∃ B, f 3 = .pointer (some ⟨B, 0, none⟩) ∧ w2.heap.size ≤ B ∧ ∃ zs : List Int, zs.length = 5 ∧ Arr .u64 W B zs) ∧ True := hH
   generalize hA : putL _ _ _ _ = A
   have q4 : A.eval (.tmp 4) = f 3 := putLl hA 4 rfl rfl rfl
   have r4 := slot_get q4
   have q7 := putLl hA 7 d2 rfl rfl
   have r7 := slot_get q7
   clear hA
   obtain ⟨B, hB, hWB, zs, hzl, hZ⟩ := d3
   rw [hB] at q4
   refine Does.storeI rfl 42 _ _ rfl 5 info_limbs B q4 .u64 zs _ q7 hZ hzl (l0) ?_
   intro A9
   exact ⟨⟨B, hB, hWB, _, l0, rfl⟩, ⟨hG.1.rowOther (by omega) _, hG.2.1.rowOther (by omega) _, Below.setRow hG.2.2 (by omega) _⟩, B, hB, hWB, A9⟩
  exact trivial
 ·
  intro f W hG hH
  obtain ⟨d0, d1, d2, d3, d4, -⟩ : (f 0 = aggI .u64 xs) ∧ (f 1 = aggI .u8 (powN 254 15)) ∧ (f 2 = aggI .u64 c0) ∧ (∃ B, f 3 = .pointer (some ⟨B, 0, none⟩) ∧ w2.heap.size ≤ B ∧ ∃ zs : List Int, zs.length = 5 ∧ Arr .u64 W B zs) ∧ (∃ B, f 3 = .pointer (some ⟨B, 0, none⟩) ∧ w2.heap.size ≤ B ∧ Arr .u64 W B (c0)) ∧ True := hH
  rw [show List.range (List.length [[], [], [0, 1, 1], [], [3, 2, 2, 0, 1, 2, 3]]) = [0, 1, 2, 3, 4] from rfl]
  simp only [putL, List.getElem?_cons_zero, List.getElem?_cons_succ, Option.join, Option.bind_some, id_eq, Act.put, List.setIfInBounds_toArray, List.set_cons_zero, List.set_cons_succ, d0, d1, d2]
  clear d0 d1 d2
  obtain ⟨B, hB, hWB, D3⟩ := d4
  clear d3
  obtain ⟨X3, R3, B3⟩ := hG
  rw [hB]
  clear hB
  go_wp2
  refine wp_region_ord [[], [], [0, 1], [], [2, 3, 2], [4]] [some 8, some 9, some 10, some 11, some 12, some 13] 6 (fun b w' => Arr .u64 w' w.heap.size xs ∧ Arr .u64 w' w1.heap.size (List.replicate 5 0) ∧ Arr .u64 w' B c0 ∧ Below w2.heap.size w2 w') (fun opn f _ => match opn with | 0 => f 0 = aggI .u64 c0 | 1 => f 1 = aggI .u64 c0 | 2 => f 2 = aggI .u64 sqa | 3 => f 3 = aggI .u64 xs | 4 => f 4 = .bool ok0 | 5 => f 5 = .bool (!ok0) | _ => True) (fun _ _ _ => True) (by kernel_rfl) (by kernel_rfl) (by kernel_rfl) (by kernel_rfl) (fun b v v' hb h => ⟨h.1.below hb, h.2.1.below hb, h.2.2.1.below hb, below_then h.2.2.2 hb⟩) (fun _ _ _ _ _ h => h) (fun _ _ _ _ _ _ _ h => h) ⟨X3.drew, R3.drew, D3.drew, B3.drew⟩ ?_ ?_
  ·
   refine StepL.other (k := 0) rfl (fun b f W hb hG hH => ?_) ?_
   ·
    clear hH
    generalize hA : putL _ _ _ _ = A
    have q4 : A.eval (.tmp 4) = .pointer (some ⟨B, 0, none⟩) := putLn hA 4 rfl rfl rfl
    have r4 := slot_get q4
    clear hA
    exact Does.loadI rfl 42 _ rfl 5 34 und_limbs info_limbs (B) q4 .u64 (c0) (hG.2.2.1) (l0) ⟨Below.refl _ _, rfl⟩
   refine StepL.other (k := 1) rfl (fun b f W hb hG hH => ?_) ?_
   ·
    clear hH
    generalize hA : putL _ _ _ _ = A
    have q4 : A.eval (.tmp 4) = .pointer (some ⟨B, 0, none⟩) := putLn hA 4 rfl rfl rfl
    have r4 := slot_get q4
    clear hA
    exact Does.loadI rfl 42 _ rfl 5 34 und_limbs info_limbs (B) q4 .u64 (c0) (hG.2.2.1) (l0) ⟨Below.refl _ _, rfl⟩
   refine StepL.other (k := 2) rfl (fun b f W hb hG hH => ?_) ?_
   ·
    obtain ⟨d0, d1, -⟩ := hH
    generalize hA : putL _ _ _ _ = A
    have q8 := putLl hA 8 d0 rfl rfl
    have r8 := slot_get q8
    have q9 := putLl hA 9 d1 rfl rfl
    have r9 := slot_get q9
    clear hA
    refine Does.call rfl _ _ (by go_simp) ((T0 W).mono ?_)
    rintro e w' ⟨rfl, hb'⟩
    exact ⟨_, rfl, hb', rfl⟩
   refine StepL.other (k := 3) rfl (fun b f W hb hG hH => ?_) ?_
   ·
    clear hH
    generalize hA : putL _ _ _ _ = A
    have q1 : A.eval (.tmp 1) = .pointer (some ⟨w.heap.size, 0, none⟩) := putLn hA 1 rfl rfl rfl
    have r1 := slot_get q1
    clear hA
    exact Does.loadI rfl 42 _ rfl 5 34 und_limbs info_limbs (w.heap.size) q1 .u64 (xs) (hG.1) (hxl) ⟨Below.refl _ _, rfl⟩
   refine StepL.other (k := 4) rfl (fun b f W hb hG hH => ?_) ?_
   ·
    obtain ⟨d2, d3, -, -⟩ := hH
    generalize hA : putL _ _ _ _ = A
    have q10 := putLl hA 10 d2 rfl rfl
    have r10 := slot_get q10
    have q11 := putLl hA 11 d3 rfl rfl
    have r11 := slot_get q11
    clear hA
    refine Does.call rfl _ _ (by go_simp) ((S0 W).mono ?_)
    rintro e w' ⟨rfl, hb'⟩
    exact ⟨_, rfl, hb', rfl⟩
   refine StepL.other (k := 5) rfl (fun b f W hb hG hH => ?_) ?_
   ·
    obtain ⟨d4, -⟩ := hH
    generalize hA : putL _ _ _ _ = A
    have q12 := putLl hA 12 d4 rfl rfl
    have r12 := slot_get q12
    clear hA
    refine Does.pure rfl (.bool (!ok0)) ?_ ⟨Below.refl _ _, rfl⟩
    go_simp
   exact trivial
  ·
   intro f W hG hH
   obtain ⟨d0, d1, d2, d3, d4, d5, -⟩ : (f 0 = aggI .u64 c0) ∧ (f 1 = aggI .u64 c0) ∧ (f 2 = aggI .u64 sqa) ∧ (f 3 = aggI .u64 xs) ∧ (f 4 = .bool ok0) ∧ (f 5 = .bool (!ok0)) ∧ True := hH
   rw [show List.range (List.length [[], [], [0, 1], [], [2, 3, 2], [4]]) = [0, 1, 2, 3, 4, 5] from rfl]
   simp only [putL, List.getElem?_cons_zero, List.getElem?_cons_succ, Option.join, Option.bind_some, id_eq, Act.put, List.setIfInBounds_toArray, List.set_cons_zero, List.set_cons_succ, d0, d1, d2, d3, d4, d5]
   clear d0 d1 d2 d3 d4 d5
   obtain ⟨AX, AR, AD, hbel⟩ := hG
   cases ok0
   ·
    simp only [Bool.not_false]
    have hw2 := hbel.size
    have hbw := below_then (below_then b1 b2) hbel
    have e0 := Go.Lib.Below.cellOf hbw g0 (Nat.le_refl _)
    have e1 := Go.Lib.Below.cellOf hbw g1 (Nat.le_refl _)
    have e2 := Go.Lib.Below.cellOf hbw g2 (Nat.le_refl _)
    have e3 := Go.Lib.Below.cellOf hbw g3 (Nat.le_refl _)
    have e4 := Go.Lib.Below.cellOf hbw g4 (Nat.le_refl _)
    go_wp2_with (first
     | (with_reducible refine at_n 14 ?_; refine wpList_loadI rfl 42 _ rfl 5 34 und_limbs info_limbs (B) rfl .u64 (c0) (AD) (l0) ?_)
     | (go_at_call 49; refine (T1 _).mono ?_; rintro e w5 ⟨rfl, b5⟩; have X5 := AX.below b5; have D5 := AD.below b5; have R5 := AR.below b5; have B5 := below_then hbel b5)
     | (with_reducible refine at_op (o := ⟨_, .store 42 (.tmp 4) _, _, _, _, _⟩) ?_; refine wpList_storeI rfl 42 _ _ rfl 5 info_limbs (B) rfl .u64 _ (c1) rfl (D5) (l0) (l1) ?_; intro D3; have X3 := X5.rowOther (B' := B) (by omega) ((c1).map (Value.int .u64)).toArray; have R3 := R5.rowOther (B' := B) (by omega) ((c1).map (Value.int .u64)).toArray; have B3 := Below.setRow B5 (g := B) (by omega) ((c1).map (Value.int .u64)).toArray))
    refine wp_region_ord [[], [], [0, 1], [], [2, 3, 2], [4]] [some 17, some 18, some 19, some 20, some 21, some 22] 6 (fun b w' => Arr .u64 w' w.heap.size xs ∧ Arr .u64 w' w1.heap.size (List.replicate 5 0) ∧ Arr .u64 w' B c1 ∧ Below w2.heap.size w2 w') (fun opn f _ => match opn with | 0 => f 0 = aggI .u64 c1 | 1 => f 1 = aggI .u64 c1 | 2 => f 2 = aggI .u64 sqb | 3 => f 3 = aggI .u64 xs | 4 => f 4 = .bool ok1 | 5 => f 5 = .bool (!ok1) | _ => True) (fun _ _ _ => True) (by kernel_rfl) (by kernel_rfl) (by kernel_rfl) (by kernel_rfl) (fun b v v' hb h => ⟨h.1.below hb, h.2.1.below hb, h.2.2.1.below hb, below_then h.2.2.2 hb⟩) (fun _ _ _ _ _ h => h) (fun _ _ _ _ _ _ _ h => h) ⟨X3.drew, R3.drew, D3.drew, B3.drew⟩ ?_ ?_
    ·
     refine StepL.other (k := 0) rfl (fun b f W hb hG hH => ?_) ?_
     ·
      clear hH
      generalize hA : putL _ _ _ _ = A
      have q4 : A.eval (.tmp 4) = .pointer (some ⟨B, 0, none⟩) := putLn hA 4 rfl rfl rfl
      have r4 := slot_get q4
      clear hA
      exact Does.loadI rfl 42 _ rfl 5 34 und_limbs info_limbs (B) q4 .u64 (c1) (hG.2.2.1) (l1) ⟨Below.refl _ _, rfl⟩
     refine StepL.other (k := 1) rfl (fun b f W hb hG hH => ?_) ?_
     ·
      clear hH
      generalize hA : putL _ _ _ _ = A
      have q4 : A.eval (.tmp 4) = .pointer (some ⟨B, 0, none⟩) := putLn hA 4 rfl rfl rfl
      have r4 := slot_get q4
      clear hA
      exact Does.loadI rfl 42 _ rfl 5 34 und_limbs info_limbs (B) q4 .u64 (c1) (hG.2.2.1) (l1) ⟨Below.refl _ _, rfl⟩
     refine StepL.other (k := 2) rfl (fun b f W hb hG hH => ?_) ?_
     ·
      obtain ⟨d0, d1, -⟩ := hH
      generalize hA : putL _ _ _ _ = A
      have q17 := putLl hA 17 d0 rfl rfl
      have r17 := slot_get q17
      have q18 := putLl hA 18 d1 rfl rfl
      have r18 := slot_get q18
      clear hA
      refine Does.call rfl _ _ (by go_simp) ((T2 W).mono ?_)
      rintro e w' ⟨rfl, hb'⟩
      exact ⟨_, rfl, hb', rfl⟩
     refine StepL.other (k := 3) rfl (fun b f W hb hG hH => ?_) ?_
     ·
      clear hH
      generalize hA : putL _ _ _ _ = A
      have q1 : A.eval (.tmp 1) = .pointer (some ⟨w.heap.size, 0, none⟩) := putLn hA 1 rfl rfl rfl
      have r1 := slot_get q1
      clear hA
      exact Does.loadI rfl 42 _ rfl 5 34 und_limbs info_limbs (w.heap.size) q1 .u64 (xs) (hG.1) (hxl) ⟨Below.refl _ _, rfl⟩
     refine StepL.other (k := 4) rfl (fun b f W hb hG hH => ?_) ?_
     ·
      obtain ⟨d2, d3, -, -⟩ := hH
      generalize hA : putL _ _ _ _ = A
      have q19 := putLl hA 19 d2 rfl rfl
      have r19 := slot_get q19
      have q20 := putLl hA 20 d3 rfl rfl
      have r20 := slot_get q20
      clear hA
      refine Does.call rfl _ _ (by go_simp) ((S1 W).mono ?_)
      rintro e w' ⟨rfl, hb'⟩
      exact ⟨_, rfl, hb', rfl⟩
     refine StepL.other (k := 5) rfl (fun b f W hb hG hH => ?_) ?_
     ·
      obtain ⟨d4, -⟩ := hH
      generalize hA : putL _ _ _ _ = A
      have q21 := putLl hA 21 d4 rfl rfl
      have r21 := slot_get q21
      clear hA
      refine Does.pure rfl (.bool (!ok1)) ?_ ⟨Below.refl _ _, rfl⟩
      go_simp
     exact trivial
    ·
     intro f W hG hH
     obtain ⟨d0, d1, d2, d3, d4, d5, -⟩ : (f 0 = aggI .u64 c1) ∧ (f 1 = aggI .u64 c1) ∧ (f 2 = aggI .u64 sqb) ∧ (f 3 = aggI .u64 xs) ∧ (f 4 = .bool ok1) ∧ (f 5 = .bool (!ok1)) ∧ True := hH
     rw [show List.range (List.length [[], [], [0, 1], [], [2, 3, 2], [4]]) = [0, 1, 2, 3, 4, 5] from rfl]
     simp only [putL, List.getElem?_cons_zero, List.getElem?_cons_succ, Option.join, Option.bind_some, id_eq, Act.put, List.setIfInBounds_toArray, List.set_cons_zero, List.set_cons_succ, d0, d1, d2, d3, d4, d5]
     clear d0 d1 d2 d3 d4 d5
     obtain ⟨AX, AR, AD, hbel⟩ := hG
     cases ok1
     ·
      simp only [Bool.not_false]
      go_wp2_with (first
       | (with_reducible refine at_n 23 ?_; refine wpList_buildI rfl 42 _ rfl .u64 [0, 0, 0, 0, 0] _ built_limbs0 rfl ?_)
       | (with_reducible refine at_op (o := ⟨_, .store 42 (.tmp 2) _, _, _, _, _⟩) ?_; refine wpList_storeI rfl 42 _ _ rfl 5 info_limbs (w1.heap.size) rfl .u64 _ ([0, 0, 0, 0, 0]) rfl (AR) (rfl) (rfl) ?_; intro A9))
      refine bodyPost_ret (results_cell_tmpI rfl _ 5 34 und_limbs info_limbs (w1.heap.size) rfl .u64 _ A9 (rfl)) rfl ?_
      obtain ⟨rfl, rfl⟩ := hC.out (by simp) (by simp)
      exact ⟨rfl, Below.setRow (below_then (below_then b1 b2) hbel) (by omega) _⟩
     ·
      simp only [Bool.not_true]
      cases od1
      ·
       go_wp2_with (first
        | (with_reducible refine at_n 24 ?_; refine wpList_loadI rfl 42 _ rfl 5 34 und_limbs info_limbs (B) rfl .u64 (c1) (AD) (l1) ?_)
        | (go_at_call 76; refine (OD1 _).mono ?_; rintro e w8 ⟨rfl, b8⟩; have D8 := AD.below b8; have R8 := AR.below b8; have B8 := below_then hbel b8)
        | (with_reducible refine at_n 28 ?_; refine wpList_loadI rfl 42 _ rfl 5 34 und_limbs info_limbs (B) rfl .u64 (c1) (D8) (l1) ?_)
        | (with_reducible refine at_op (o := ⟨_, .store 42 (.tmp 2) _, _, _, _, _⟩) ?_; refine wpList_storeI rfl 42 _ _ rfl 5 info_limbs (w1.heap.size) rfl .u64 _ (c1) rfl (R8) (rfl) (l1) ?_; intro A9))
       refine bodyPost_ret (results_cell_tmpI rfl _ 5 34 und_limbs info_limbs (w1.heap.size) rfl .u64 _ A9 (l1)) rfl ?_
       obtain ⟨rfl, rfl⟩ := hB0.out (by simp) (by simp) (by simp)
       exact ⟨rfl, Below.setRow (below_then (below_then b1 b2) B8) (by omega) _⟩
      ·
       go_wp2_with (first
        | (with_reducible refine at_n 24 ?_; refine wpList_loadI rfl 42 _ rfl 5 34 und_limbs info_limbs (B) rfl .u64 (c1) (AD) (l1) ?_)
        | (go_at_call 76; refine (OD1 _).mono ?_; rintro e w8 ⟨rfl, b8⟩; have D8 := AD.below b8; have R8 := AR.below b8; have B8 := below_then hbel b8)
        | (with_reducible refine at_n 26 ?_; refine wpList_loadI rfl 42 _ rfl 5 34 und_limbs info_limbs (B) rfl .u64 (c1) (D8) (l1) ?_)
        | (go_at_call 62; refine (NG1 _).mono ?_; rintro e w9 ⟨rfl, b9⟩; have D9 := D8.below b9; have R9 := R8.below b9; have B9 := below_then B8 b9)
        | (with_reducible refine at_op (o := ⟨_, .store 42 (.tmp 4) _, _, _, _, _⟩) ?_; refine wpList_storeI rfl 42 _ _ rfl 5 info_limbs (B) rfl .u64 _ (n1) rfl (D9) (l1) (m1) ?_; intro E10; have R10 := R9.rowOther (B' := B) (by omega) ((n1).map (Value.int .u64)).toArray; have B10 := Below.setRow B9 (g := B) (by omega) ((n1).map (Value.int .u64)).toArray)
        | (with_reducible refine at_n 28 ?_; refine wpList_loadI rfl 42 _ rfl 5 34 und_limbs info_limbs (B) rfl .u64 (n1) (E10) (m1) ?_)
        | (with_reducible refine at_op (o := ⟨_, .store 42 (.tmp 2) _, _, _, _, _⟩) ?_; refine wpList_storeI rfl 42 _ _ rfl 5 info_limbs (w1.heap.size) rfl .u64 _ (n1) rfl (R10) (rfl) (m1) ?_; intro A9))
       refine bodyPost_ret (results_cell_tmpI rfl _ 5 34 und_limbs info_limbs (w1.heap.size) rfl .u64 _ A9 (m1)) rfl ?_
       obtain ⟨rfl, rfl⟩ := hB1.out (by simp) (by simp) (by simp)
       exact ⟨rfl, Below.setRow (below_then (below_then b1 b2) B10) (by omega) _⟩
   ·
    simp only [Bool.not_true]
    go_wp2
    have X3 := AX
    have R3 := AR
    have D3 := AD
    have B3 := hbel
    refine wp_region_ord [[], [], [0, 1], [], [2, 3, 2], [4]] [some 17, some 18, some 19, some 20, some 21, some 22] 6 (fun b w' => Arr .u64 w' w.heap.size xs ∧ Arr .u64 w' w1.heap.size (List.replicate 5 0) ∧ Arr .u64 w' B c0 ∧ Below w2.heap.size w2 w') (fun opn f _ => match opn with | 0 => f 0 = aggI .u64 c0 | 1 => f 1 = aggI .u64 c0 | 2 => f 2 = aggI .u64 sqa | 3 => f 3 = aggI .u64 xs | 4 => f 4 = .bool true | 5 => f 5 = .bool (!true) | _ => True) (fun _ _ _ => True) (by kernel_rfl) (by kernel_rfl) (by kernel_rfl) (by kernel_rfl) (fun b v v' hb h => ⟨h.1.below hb, h.2.1.below hb, h.2.2.1.below hb, below_then h.2.2.2 hb⟩) (fun _ _ _ _ _ h => h) (fun _ _ _ _ _ _ _ h => h) ⟨X3.drew, R3.drew, D3.drew, B3.drew⟩ ?_ ?_
    ·
     refine StepL.other (k := 0) rfl (fun b f W hb hG hH => ?_) ?_
     ·
      clear hH
      generalize hA : putL _ _ _ _ = A
      have q4 : A.eval (.tmp 4) = .pointer (some ⟨B, 0, none⟩) := putLn hA 4 rfl rfl rfl
      have r4 := slot_get q4
      clear hA
      exact Does.loadI rfl 42 _ rfl 5 34 und_limbs info_limbs (B) q4 .u64 (c0) (hG.2.2.1) (l0) ⟨Below.refl _ _, rfl⟩
     refine StepL.other (k := 1) rfl (fun b f W hb hG hH => ?_) ?_
     ·
      clear hH
      generalize hA : putL _ _ _ _ = A
      have q4 : A.eval (.tmp 4) = .pointer (some ⟨B, 0, none⟩) := putLn hA 4 rfl rfl rfl
      have r4 := slot_get q4
      clear hA
      exact Does.loadI rfl 42 _ rfl 5 34 und_limbs info_limbs (B) q4 .u64 (c0) (hG.2.2.1) (l0) ⟨Below.refl _ _, rfl⟩
     refine StepL.other (k := 2) rfl (fun b f W hb hG hH => ?_) ?_
     ·
      obtain ⟨d0, d1, -⟩ := hH
      generalize hA : putL _ _ _ _ = A
      have q17 := putLl hA 17 d0 rfl rfl
      have r17 := slot_get q17
      have q18 := putLl hA 18 d1 rfl rfl
      have r18 := slot_get q18
      clear hA
      refine Does.call rfl _ _ (by go_simp) ((T0 W).mono ?_)
      rintro e w' ⟨rfl, hb'⟩
      exact ⟨_, rfl, hb', rfl⟩
     refine StepL.other (k := 3) rfl (fun b f W hb hG hH => ?_) ?_
     ·
      clear hH
      generalize hA : putL _ _ _ _ = A
      have q1 : A.eval (.tmp 1) = .pointer (some ⟨w.heap.size, 0, none⟩) := putLn hA 1 rfl rfl rfl
      have r1 := slot_get q1
      clear hA
      exact Does.loadI rfl 42 _ rfl 5 34 und_limbs info_limbs (w.heap.size) q1 .u64 (xs) (hG.1) (hxl) ⟨Below.refl _ _, rfl⟩
     refine StepL.other (k := 4) rfl (fun b f W hb hG hH => ?_) ?_
     ·
      obtain ⟨d2, d3, -, -⟩ := hH
      generalize hA : putL _ _ _ _ = A
      have q19 := putLl hA 19 d2 rfl rfl
      have r19 := slot_get q19
      have q20 := putLl hA 20 d3 rfl rfl
      have r20 := slot_get q20
      clear hA
      refine Does.call rfl _ _ (by go_simp) ((S0 W).mono ?_)
      rintro e w' ⟨rfl, hb'⟩
      exact ⟨_, rfl, hb', rfl⟩
     refine StepL.other (k := 5) rfl (fun b f W hb hG hH => ?_) ?_
     ·
      obtain ⟨d4, -⟩ := hH
      generalize hA : putL _ _ _ _ = A
      have q21 := putLl hA 21 d4 rfl rfl
      have r21 := slot_get q21
      clear hA
      refine Does.pure rfl (.bool (!true)) ?_ ⟨Below.refl _ _, rfl⟩
      go_simp
     exact trivial
    ·
     intro f W hG hH
     obtain ⟨d0, d1, d2, d3, d4, d5, -⟩ : (f 0 = aggI .u64 c0) ∧ (f 1 = aggI .u64 c0) ∧ (f 2 = aggI .u64 sqa) ∧ (f 3 = aggI .u64 xs) ∧ (f 4 = .bool true) ∧ (f 5 = .bool (!true)) ∧ True := hH
     rw [show List.range (List.length [[], [], [0, 1], [], [2, 3, 2], [4]]) = [0, 1, 2, 3, 4, 5] from rfl]
     simp only [putL, List.getElem?_cons_zero, List.getElem?_cons_succ, Option.join, Option.bind_some, id_eq, Act.put, List.setIfInBounds_toArray, List.set_cons_zero, List.set_cons_succ, d0, d1, d2, d3, d4, d5]
     clear d0 d1 d2 d3 d4 d5
     obtain ⟨AX, AR, AD, hbel⟩ := hG
     simp only [Bool.not_true]
     cases od0
     ·
      go_wp2_with (first
       | (with_reducible refine at_n 24 ?_; refine wpList_loadI rfl 42 _ rfl 5 34 und_limbs info_limbs (B) rfl .u64 (c0) (AD) (l0) ?_)
       | (go_at_call 76; refine (OD0 _).mono ?_; rintro e w8 ⟨rfl, b8⟩; have D8 := AD.below b8; have R8 := AR.below b8; have B8 := below_then hbel b8)
       | (with_reducible refine at_n 28 ?_; refine wpList_loadI rfl 42 _ rfl 5 34 und_limbs info_limbs (B) rfl .u64 (c0) (D8) (l0) ?_)
       | (with_reducible refine at_op (o := ⟨_, .store 42 (.tmp 2) _, _, _, _, _⟩) ?_; refine wpList_storeI rfl 42 _ _ rfl 5 info_limbs (w1.heap.size) rfl .u64 _ (c0) rfl (R8) (rfl) (l0) ?_; intro A9))
      refine bodyPost_ret (results_cell_tmpI rfl _ 5 34 und_limbs info_limbs (w1.heap.size) rfl .u64 _ A9 (l0)) rfl ?_
      obtain ⟨rfl, rfl⟩ := hA0.out (by simp) (by simp)
      exact ⟨rfl, Below.setRow (below_then (below_then b1 b2) B8) (by omega) _⟩
     ·
      go_wp2_with (first
       | (with_reducible refine at_n 24 ?_; refine wpList_loadI rfl 42 _ rfl 5 34 und_limbs info_limbs (B) rfl .u64 (c0) (AD) (l0) ?_)
       | (go_at_call 76; refine (OD0 _).mono ?_; rintro e w8 ⟨rfl, b8⟩; have D8 := AD.below b8; have R8 := AR.below b8; have B8 := below_then hbel b8)
       | (with_reducible refine at_n 26 ?_; refine wpList_loadI rfl 42 _ rfl 5 34 und_limbs info_limbs (B) rfl .u64 (c0) (D8) (l0) ?_)
       | (go_at_call 62; refine (NG0 _).mono ?_; rintro e w9 ⟨rfl, b9⟩; have D9 := D8.below b9; have R9 := R8.below b9; have B9 := below_then B8 b9)
       | (with_reducible refine at_op (o := ⟨_, .store 42 (.tmp 4) _, _, _, _, _⟩) ?_; refine wpList_storeI rfl 42 _ _ rfl 5 info_limbs (B) rfl .u64 _ (n0) rfl (D9) (l0) (m0) ?_; intro E10; have R10 := R9.rowOther (B' := B) (by omega) ((n0).map (Value.int .u64)).toArray; have B10 := Below.setRow B9 (g := B) (by omega) ((n0).map (Value.int .u64)).toArray)
       | (with_reducible refine at_n 28 ?_; refine wpList_loadI rfl 42 _ rfl 5 34 und_limbs info_limbs (B) rfl .u64 (n0) (E10) (m0) ?_)
       | (with_reducible refine at_op (o := ⟨_, .store 42 (.tmp 2) _, _, _, _, _⟩) ?_; refine wpList_storeI rfl 42 _ _ rfl 5 info_limbs (w1.heap.size) rfl .u64 _ (n0) rfl (R10) (rfl) (m0) ?_; intro A9))
      refine bodyPost_ret (results_cell_tmpI rfl _ 5 34 und_limbs info_limbs (w1.heap.size) rfl .u64 _ A9 (m0)) rfl ?_
      obtain ⟨rfl, rfl⟩ := hA1.out (by simp) (by simp)
      exact ⟨rfl, Below.setRow (below_then (below_then b1 b2) B10) (by omega) _⟩
end Go.Proofs.YtelppapkffjmpaaDoor
end
section
--@optional
namespace Go.Proofs.YtelppapkffjmpaaDoor
open Go.RowKit Go.Shelf
set_option linter.unusedVariables false
set_option maxRecDepth 8000

def rootL : List Int := [1718705420411056, 234908883556509, 2233514472574048, 2117202627021982, 765476049583133]
theorem rootL_agg : aggI .u64 rootL = .agg #[.int .u64 1718705420411056, .int .u64 234908883556509, .int .u64 2233514472574048, .int .u64 2117202627021982, .int .u64 765476049583133] := rfl
/-- The root of -1. -/
def iV : Int := valL rootL % pV
theorem rootL_fel : Fel rootL iV := ⟨rfl, small_of5 (by omega) (by omega) (by omega) (by omega) (by omega), rfl⟩
def rt0 (u : Int) : Int := u ^ (valB (powN 254 15) 32).toNat % pV
def rt1 (u : Int) : Int := rt0 u * iV % pV
def sq0 (u : Int) : Bool := decide (rt0 u * rt0 u % pV = u)
def sq1 (u : Int) : Bool := decide (rt1 u * rt1 u % pV = u)
/-- Is there a root? -/
def okV (u : Int) : Bool := sq0 u || sq1 u
/-- The even one of a number and its negative. -/
def evenV (c : Int) : Int := if c % 2 = 1 then (0 - c) % pV else c
def rV (u : Int) : Int := if sq0 u then evenV (rt0 u) else if sq1 u then evenV (rt1 u) else 0
/-- The variable rootOfMinusOne holds what the program gave it. -/
structure Tab (w : World) : Prop where
  g0 : w.cell? ⟨2, 0, none⟩ = some (.int .u64 1718705420411056)
  g1 : w.cell? ⟨2, 1, none⟩ = some (.int .u64 234908883556509)
  g2 : w.cell? ⟨2, 2, none⟩ = some (.int .u64 2233514472574048)
  g3 : w.cell? ⟨2, 3, none⟩ = some (.int .u64 2117202627021982)
  g4 : w.cell? ⟨2, 4, none⟩ = some (.int .u64 765476049583133)
theorem Tab.below {w w' : World} (h : Tab w) (hb : Below w.heap.size w w') : Tab w' :=
  ⟨Go.Lib.Below.cellOf hb h.g0 (Nat.le_refl _), Go.Lib.Below.cellOf hb h.g1 (Nat.le_refl _), Go.Lib.Below.cellOf hb h.g2 (Nat.le_refl _), Go.Lib.Below.cellOf hb h.g3 (Nat.le_refl _), Go.Lib.Below.cellOf hb h.g4 (Nat.le_refl _)⟩
end Go.Proofs.YtelppapkffjmpaaDoor
end
section
namespace Go.Proofs.YtelppapkffjmpaaDoor
open Go.RowKit Go.Shelf
set_option linter.unusedVariables false
set_option maxRecDepth 100000

def pN : Nat := 57896044618658097711785492504343953926634992332820282019728792003956564819949
theorem pV_nat : pV = (pN : Int) := by decide +kernel
theorem rtN_eq : (valB (powN 254 15) 32).toNat = 7237005577332262213973186563042994240829374041602535252466099000494570602494 := by decide +kernel
end Go.Proofs.YtelppapkffjmpaaDoor
end
section
--@optional
namespace Go.Proofs.YtelppapkffjmpaaDoor
open Go.RowKit Go.Shelf
set_option linter.unusedVariables false
set_option maxRecDepth 8000

section
variable {P : Program} {ops : Array Oper} {o : Oper} {a : Act} {w : World}
end
end Go.Proofs.YtelppapkffjmpaaDoor
end

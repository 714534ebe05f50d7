/- Numbers of five limbs: products. -/
import Derived.Test.YtlhloldjlfcchaaDoorFB
namespace Go.Proofs.YtlhloldjlfcchaaDoor
open Go.RowKit Go.Shelf
set_option linter.unusedVariables false
set_option maxRecDepth 8000

theorem built_wide0 : Tryd.prog.built 57 [] = some (([0 / 18446744073709551616, 0 % 18446744073709551616] : List Int).map (Value.int .u64)).toArray := by kernel_rfl
def Bd (n : Int) (v : Int) : Prop := 0 ≤ v ∧ v ≤ n * 96341445662207916106233753370624
theorem Bd.one {t : Int} (h : 0 ≤ t ∧ t ≤ 96341445662207916106233753370624) : Bd 1 t := by unfold Bd; omega
theorem Bd.step {n v t : Int} (hv : Bd n v) (h : 0 ≤ t ∧ t ≤ 96341445662207916106233753370624) : Bd (n + 1) (v + t) := by unfold Bd at *; rw [Int.add_mul]; omega
theorem term0 {x y : List Int} (hx : Small x) (hy : Small y) (i j : Nat) : 0 ≤ at0 x i * at0 y j ∧ at0 x i * at0 y j ≤ 96341445662207916106233753370624 := by have := small_mul hx hy i j; omega
theorem term1 {x y : List Int} (hx : Small x) (hy : Small y) (i j : Nat) : 0 ≤ at0 x i * 19 * at0 y j ∧ at0 x i * 19 * at0 y j ≤ 96341445662207916106233753370624 := by
  have := small_mul hx hy i j
  rw [Int.mul_right_comm]
  omega
theorem word0 {x : List Int} (hx : Small x) (i : Nat) : 0 ≤ at0 x i ∧ at0 x i < 18446744073709551616 := by have := hx i; omega
theorem word1 {x : List Int} (hx : Small x) (i : Nat) : 0 ≤ at0 x i * 19 ∧ at0 x i * 19 < 18446744073709551616 := by have := hx i; omega
theorem more_bd (n v a b : Int) (w : World) (hn : n ≤ 5) (hv : Bd n v) (ha : 0 ≤ a ∧ a < 18446744073709551616) (hb : 0 ≤ b ∧ b < 18446744073709551616) (ht : 0 ≤ a * b ∧ a * b ≤ 96341445662207916106233753370624) :
    Calls Tryd.prog 50 #[wv v, .int .u64 a, .int .u64 b] w fun e w' => e = .returned (wv (v + a * b)) ∧ Below w.heap.size w w' := by
  refine more_any v a b w hv.1 ha hb ?_
  unfold Bd at hv
  generalize a * b = m at *
  omega
theorem wpList_wide0 {ops : Array Oper} {o : Oper} {a : Act} {w : World} {rest : List Oper} {Q : Exit → Act → World → Prop} (hgd : o.guard = none) (ho : o.op = .build 57 #[]) (h : wpList Tryd.prog ops Q rest (a.put o.dst (wv 0)) w) : wpList Tryd.prog ops Q (o :: rest) a w :=
  wpList_buildI hgd _ _ ho .u64 [0 / 18446744073709551616, 0 % 18446744073709551616] _ built_wide0 rfl h

set_option maxHeartbeats 8000000 in
theorem times_any (xs ys : List Int) (w : World) (hx : Small xs) (hy : Small ys) (hl : xs.length = 5) (hm : ys.length = 5) :
    Calls Tryd.prog 38 #[aggI .u64 xs, aggI .u64 ys] w fun e w' => e = .returned (aggI .u64 (carriedS (timesL xs ys))) ∧ Below w.heap.size w w' := by
  have x0 := hx 0; have x1 := hx 1; have x2 := hx 2; have x3 := hx 3; have x4 := hx 4
  have y0 := hy 0; have y1 := hy 1; have y2 := hy 2; have y3 := hy 3; have y4 := hy 4
  have z1 := wrap_id (x := at0 xs 1 * 19) (by omega) (by omega); have z2 := wrap_id (x := at0 xs 2 * 19) (by omega) (by omega)
  have z3 := wrap_id (x := at0 xs 3 * 19) (by omega) (by omega); have z4 := wrap_id (x := at0 xs 4 * 19) (by omega) (by omega)
  obtain ⟨WW, hW⟩ : ∃ WW : Int → Value, ∀ v, WW v = wv v := ⟨_, fun _ => rfl⟩
  have HM : ∀ (n v a b : Int) (w : World), n ≤ 5 → Bd n v → (0 ≤ a ∧ a < 18446744073709551616) → (0 ≤ b ∧ b < 18446744073709551616) → (0 ≤ a * b ∧ a * b ≤ 96341445662207916106233753370624) → Calls Tryd.prog 50 #[WW v, .int .u64 a, .int .u64 b] w fun e w' => e = .returned (WW (v + a * b)) ∧ Below w.heap.size w w' := by
    intro n v a b w h1 h2 h3 h4 h5
    rw [hW, hW]
    exact more_bd n v a b w h1 h2 h3 h4 h5
  have HM0 : ∀ (a b : Int) (w : World), (0 ≤ a ∧ a < 18446744073709551616) → (0 ≤ b ∧ b < 18446744073709551616) → (0 ≤ a * b ∧ a * b ≤ 96341445662207916106233753370624) → Calls Tryd.prog 50 #[WW 0, .int .u64 a, .int .u64 b] w fun e w' => e = .returned (WW (a * b)) ∧ Below w.heap.size w w' := by
    intro a b w h3 h4 h5
    have h := HM 0 0 a b w (by decide) ⟨Int.le_refl _, by decide⟩ h3 h4 h5
    rw [Int.zero_add] at h
    exact h
  have T0_0 := term0 hx hy 0 0
  have V0_1 : Bd 1 (at0 xs 0 * at0 ys 0) := Bd.one T0_0
  have M0_0 : ∀ W', Calls Tryd.prog 50 #[WW 0, .int .u64 (at0 xs 0), .int .u64 (at0 ys 0)] W' fun e w' => e = .returned (WW (at0 xs 0 * at0 ys 0)) ∧ Below W'.heap.size W' w' := fun W' => HM0 _ _ W' (word0 hx 0) (word0 hy 0) T0_0
  have T0_1 := term1 hx hy 1 4
  have V0_2 : Bd 2 (at0 xs 0 * at0 ys 0 + at0 xs 1 * 19 * at0 ys 4) := V0_1.step T0_1
  have M0_1 : ∀ W', Calls Tryd.prog 50 #[WW (at0 xs 0 * at0 ys 0), .int .u64 (at0 xs 1 * 19), .int .u64 (at0 ys 4)] W' fun e w' => e = .returned (WW (at0 xs 0 * at0 ys 0 + at0 xs 1 * 19 * at0 ys 4)) ∧ Below W'.heap.size W' w' := fun W' => HM _ _ _ _ W' (by decide) V0_1 (word1 hx 1) (word0 hy 4) T0_1
  have T0_2 := term1 hx hy 2 3
  have V0_3 : Bd 3 (at0 xs 0 * at0 ys 0 + at0 xs 1 * 19 * at0 ys 4 + at0 xs 2 * 19 * at0 ys 3) := V0_2.step T0_2
  have M0_2 : ∀ W', Calls Tryd.prog 50 #[WW (at0 xs 0 * at0 ys 0 + at0 xs 1 * 19 * at0 ys 4), .int .u64 (at0 xs 2 * 19), .int .u64 (at0 ys 3)] W' fun e w' => e = .returned (WW (at0 xs 0 * at0 ys 0 + at0 xs 1 * 19 * at0 ys 4 + at0 xs 2 * 19 * at0 ys 3)) ∧ Below W'.heap.size W' w' := fun W' => HM _ _ _ _ W' (by decide) V0_2 (word1 hx 2) (word0 hy 3) T0_2
  have T0_3 := term1 hx hy 3 2
  have V0_4 : Bd 4 (at0 xs 0 * at0 ys 0 + at0 xs 1 * 19 * at0 ys 4 + at0 xs 2 * 19 * at0 ys 3 + at0 xs 3 * 19 * at0 ys 2) := V0_3.step T0_3
  have M0_3 : ∀ W', Calls Tryd.prog 50 #[WW (at0 xs 0 * at0 ys 0 + at0 xs 1 * 19 * at0 ys 4 + at0 xs 2 * 19 * at0 ys 3), .int .u64 (at0 xs 3 * 19), .int .u64 (at0 ys 2)] W' fun e w' => e = .returned (WW (at0 xs 0 * at0 ys 0 + at0 xs 1 * 19 * at0 ys 4 + at0 xs 2 * 19 * at0 ys 3 + at0 xs 3 * 19 * at0 ys 2)) ∧ Below W'.heap.size W' w' := fun W' => HM _ _ _ _ W' (by decide) V0_3 (word1 hx 3) (word0 hy 2) T0_3
  have T0_4 := term1 hx hy 4 1
  have V0_5 : Bd 5 (at0 xs 0 * at0 ys 0 + at0 xs 1 * 19 * at0 ys 4 + at0 xs 2 * 19 * at0 ys 3 + at0 xs 3 * 19 * at0 ys 2 + at0 xs 4 * 19 * at0 ys 1) := V0_4.step T0_4
  have M0_4 : ∀ W', Calls Tryd.prog 50 #[WW (at0 xs 0 * at0 ys 0 + at0 xs 1 * 19 * at0 ys 4 + at0 xs 2 * 19 * at0 ys 3 + at0 xs 3 * 19 * at0 ys 2), .int .u64 (at0 xs 4 * 19), .int .u64 (at0 ys 1)] W' fun e w' => e = .returned (WW (at0 xs 0 * at0 ys 0 + at0 xs 1 * 19 * at0 ys 4 + at0 xs 2 * 19 * at0 ys 3 + at0 xs 3 * 19 * at0 ys 2 + at0 xs 4 * 19 * at0 ys 1)) ∧ Below W'.heap.size W' w' := fun W' => HM _ _ _ _ W' (by decide) V0_4 (word1 hx 4) (word0 hy 1) T0_4
  have T1_0 := term0 hx hy 0 1
  have V1_1 : Bd 1 (at0 xs 0 * at0 ys 1) := Bd.one T1_0
  have M1_0 : ∀ W', Calls Tryd.prog 50 #[WW 0, .int .u64 (at0 xs 0), .int .u64 (at0 ys 1)] W' fun e w' => e = .returned (WW (at0 xs 0 * at0 ys 1)) ∧ Below W'.heap.size W' w' := fun W' => HM0 _ _ W' (word0 hx 0) (word0 hy 1) T1_0
  have T1_1 := term0 hx hy 1 0
  have V1_2 : Bd 2 (at0 xs 0 * at0 ys 1 + at0 xs 1 * at0 ys 0) := V1_1.step T1_1
  have M1_1 : ∀ W', Calls Tryd.prog 50 #[WW (at0 xs 0 * at0 ys 1), .int .u64 (at0 xs 1), .int .u64 (at0 ys 0)] W' fun e w' => e = .returned (WW (at0 xs 0 * at0 ys 1 + at0 xs 1 * at0 ys 0)) ∧ Below W'.heap.size W' w' := fun W' => HM _ _ _ _ W' (by decide) V1_1 (word0 hx 1) (word0 hy 0) T1_1
  have T1_2 := term1 hx hy 2 4
  have V1_3 : Bd 3 (at0 xs 0 * at0 ys 1 + at0 xs 1 * at0 ys 0 + at0 xs 2 * 19 * at0 ys 4) := V1_2.step T1_2
  have M1_2 : ∀ W', Calls Tryd.prog 50 #[WW (at0 xs 0 * at0 ys 1 + at0 xs 1 * at0 ys 0), .int .u64 (at0 xs 2 * 19), .int .u64 (at0 ys 4)] W' fun e w' => e = .returned (WW (at0 xs 0 * at0 ys 1 + at0 xs 1 * at0 ys 0 + at0 xs 2 * 19 * at0 ys 4)) ∧ Below W'.heap.size W' w' := fun W' => HM _ _ _ _ W' (by decide) V1_2 (word1 hx 2) (word0 hy 4) T1_2
  have T1_3 := term1 hx hy 3 3
  have V1_4 : Bd 4 (at0 xs 0 * at0 ys 1 + at0 xs 1 * at0 ys 0 + at0 xs 2 * 19 * at0 ys 4 + at0 xs 3 * 19 * at0 ys 3) := V1_3.step T1_3
  have M1_3 : ∀ W', Calls Tryd.prog 50 #[WW (at0 xs 0 * at0 ys 1 + at0 xs 1 * at0 ys 0 + at0 xs 2 * 19 * at0 ys 4), .int .u64 (at0 xs 3 * 19), .int .u64 (at0 ys 3)] W' fun e w' => e = .returned (WW (at0 xs 0 * at0 ys 1 + at0 xs 1 * at0 ys 0 + at0 xs 2 * 19 * at0 ys 4 + at0 xs 3 * 19 * at0 ys 3)) ∧ Below W'.heap.size W' w' := fun W' => HM _ _ _ _ W' (by decide) V1_3 (word1 hx 3) (word0 hy 3) T1_3
  have T1_4 := term1 hx hy 4 2
  have V1_5 : Bd 5 (at0 xs 0 * at0 ys 1 + at0 xs 1 * at0 ys 0 + at0 xs 2 * 19 * at0 ys 4 + at0 xs 3 * 19 * at0 ys 3 + at0 xs 4 * 19 * at0 ys 2) := V1_4.step T1_4
  have M1_4 : ∀ W', Calls Tryd.prog 50 #[WW (at0 xs 0 * at0 ys 1 + at0 xs 1 * at0 ys 0 + at0 xs 2 * 19 * at0 ys 4 + at0 xs 3 * 19 * at0 ys 3), .int .u64 (at0 xs 4 * 19), .int .u64 (at0 ys 2)] W' fun e w' => e = .returned (WW (at0 xs 0 * at0 ys 1 + at0 xs 1 * at0 ys 0 + at0 xs 2 * 19 * at0 ys 4 + at0 xs 3 * 19 * at0 ys 3 + at0 xs 4 * 19 * at0 ys 2)) ∧ Below W'.heap.size W' w' := fun W' => HM _ _ _ _ W' (by decide) V1_4 (word1 hx 4) (word0 hy 2) T1_4
  have T2_0 := term0 hx hy 0 2
  have V2_1 : Bd 1 (at0 xs 0 * at0 ys 2) := Bd.one T2_0
  have M2_0 : ∀ W', Calls Tryd.prog 50 #[WW 0, .int .u64 (at0 xs 0), .int .u64 (at0 ys 2)] W' fun e w' => e = .returned (WW (at0 xs 0 * at0 ys 2)) ∧ Below W'.heap.size W' w' := fun W' => HM0 _ _ W' (word0 hx 0) (word0 hy 2) T2_0
  have T2_1 := term0 hx hy 1 1
  have V2_2 : Bd 2 (at0 xs 0 * at0 ys 2 + at0 xs 1 * at0 ys 1) := V2_1.step T2_1
  have M2_1 : ∀ W', Calls Tryd.prog 50 #[WW (at0 xs 0 * at0 ys 2), .int .u64 (at0 xs 1), .int .u64 (at0 ys 1)] W' fun e w' => e = .returned (WW (at0 xs 0 * at0 ys 2 + at0 xs 1 * at0 ys 1)) ∧ Below W'.heap.size W' w' := fun W' => HM _ _ _ _ W' (by decide) V2_1 (word0 hx 1) (word0 hy 1) T2_1
  have T2_2 := term0 hx hy 2 0
  have V2_3 : Bd 3 (at0 xs 0 * at0 ys 2 + at0 xs 1 * at0 ys 1 + at0 xs 2 * at0 ys 0) := V2_2.step T2_2
  have M2_2 : ∀ W', Calls Tryd.prog 50 #[WW (at0 xs 0 * at0 ys 2 + at0 xs 1 * at0 ys 1), .int .u64 (at0 xs 2), .int .u64 (at0 ys 0)] W' fun e w' => e = .returned (WW (at0 xs 0 * at0 ys 2 + at0 xs 1 * at0 ys 1 + at0 xs 2 * at0 ys 0)) ∧ Below W'.heap.size W' w' := fun W' => HM _ _ _ _ W' (by decide) V2_2 (word0 hx 2) (word0 hy 0) T2_2
  have T2_3 := term1 hx hy 3 4
  have V2_4 : Bd 4 (at0 xs 0 * at0 ys 2 + at0 xs 1 * at0 ys 1 + at0 xs 2 * at0 ys 0 + at0 xs 3 * 19 * at0 ys 4) := V2_3.step T2_3
  have M2_3 : ∀ W', Calls Tryd.prog 50 #[WW (at0 xs 0 * at0 ys 2 + at0 xs 1 * at0 ys 1 + at0 xs 2 * at0 ys 0), .int .u64 (at0 xs 3 * 19), .int .u64 (at0 ys 4)] W' fun e w' => e = .returned (WW (at0 xs 0 * at0 ys 2 + at0 xs 1 * at0 ys 1 + at0 xs 2 * at0 ys 0 + at0 xs 3 * 19 * at0 ys 4)) ∧ Below W'.heap.size W' w' := fun W' => HM _ _ _ _ W' (by decide) V2_3 (word1 hx 3) (word0 hy 4) T2_3
  have T2_4 := term1 hx hy 4 3
  have V2_5 : Bd 5 (at0 xs 0 * at0 ys 2 + at0 xs 1 * at0 ys 1 + at0 xs 2 * at0 ys 0 + at0 xs 3 * 19 * at0 ys 4 + at0 xs 4 * 19 * at0 ys 3) := V2_4.step T2_4
  have M2_4 : ∀ W', Calls Tryd.prog 50 #[WW (at0 xs 0 * at0 ys 2 + at0 xs 1 * at0 ys 1 + at0 xs 2 * at0 ys 0 + at0 xs 3 * 19 * at0 ys 4), .int .u64 (at0 xs 4 * 19), .int .u64 (at0 ys 3)] W' fun e w' => e = .returned (WW (at0 xs 0 * at0 ys 2 + at0 xs 1 * at0 ys 1 + at0 xs 2 * at0 ys 0 + at0 xs 3 * 19 * at0 ys 4 + at0 xs 4 * 19 * at0 ys 3)) ∧ Below W'.heap.size W' w' := fun W' => HM _ _ _ _ W' (by decide) V2_4 (word1 hx 4) (word0 hy 3) T2_4
  have T3_0 := term0 hx hy 0 3
  have V3_1 : Bd 1 (at0 xs 0 * at0 ys 3) := Bd.one T3_0
  have M3_0 : ∀ W', Calls Tryd.prog 50 #[WW 0, .int .u64 (at0 xs 0), .int .u64 (at0 ys 3)] W' fun e w' => e = .returned (WW (at0 xs 0 * at0 ys 3)) ∧ Below W'.heap.size W' w' := fun W' => HM0 _ _ W' (word0 hx 0) (word0 hy 3) T3_0
  have T3_1 := term0 hx hy 1 2
  have V3_2 : Bd 2 (at0 xs 0 * at0 ys 3 + at0 xs 1 * at0 ys 2) := V3_1.step T3_1
  have M3_1 : ∀ W', Calls Tryd.prog 50 #[WW (at0 xs 0 * at0 ys 3), .int .u64 (at0 xs 1), .int .u64 (at0 ys 2)] W' fun e w' => e = .returned (WW (at0 xs 0 * at0 ys 3 + at0 xs 1 * at0 ys 2)) ∧ Below W'.heap.size W' w' := fun W' => HM _ _ _ _ W' (by decide) V3_1 (word0 hx 1) (word0 hy 2) T3_1
  have T3_2 := term0 hx hy 2 1
  have V3_3 : Bd 3 (at0 xs 0 * at0 ys 3 + at0 xs 1 * at0 ys 2 + at0 xs 2 * at0 ys 1) := V3_2.step T3_2
  have M3_2 : ∀ W', Calls Tryd.prog 50 #[WW (at0 xs 0 * at0 ys 3 + at0 xs 1 * at0 ys 2), .int .u64 (at0 xs 2), .int .u64 (at0 ys 1)] W' fun e w' => e = .returned (WW (at0 xs 0 * at0 ys 3 + at0 xs 1 * at0 ys 2 + at0 xs 2 * at0 ys 1)) ∧ Below W'.heap.size W' w' := fun W' => HM _ _ _ _ W' (by decide) V3_2 (word0 hx 2) (word0 hy 1) T3_2
  have T3_3 := term0 hx hy 3 0
  have V3_4 : Bd 4 (at0 xs 0 * at0 ys 3 + at0 xs 1 * at0 ys 2 + at0 xs 2 * at0 ys 1 + at0 xs 3 * at0 ys 0) := V3_3.step T3_3
  have M3_3 : ∀ W', Calls Tryd.prog 50 #[WW (at0 xs 0 * at0 ys 3 + at0 xs 1 * at0 ys 2 + at0 xs 2 * at0 ys 1), .int .u64 (at0 xs 3), .int .u64 (at0 ys 0)] W' fun e w' => e = .returned (WW (at0 xs 0 * at0 ys 3 + at0 xs 1 * at0 ys 2 + at0 xs 2 * at0 ys 1 + at0 xs 3 * at0 ys 0)) ∧ Below W'.heap.size W' w' := fun W' => HM _ _ _ _ W' (by decide) V3_3 (word0 hx 3) (word0 hy 0) T3_3
  have T3_4 := term1 hx hy 4 4
  have V3_5 : Bd 5 (at0 xs 0 * at0 ys 3 + at0 xs 1 * at0 ys 2 + at0 xs 2 * at0 ys 1 + at0 xs 3 * at0 ys 0 + at0 xs 4 * 19 * at0 ys 4) := V3_4.step T3_4
  have M3_4 : ∀ W', Calls Tryd.prog 50 #[WW (at0 xs 0 * at0 ys 3 + at0 xs 1 * at0 ys 2 + at0 xs 2 * at0 ys 1 + at0 xs 3 * at0 ys 0), .int .u64 (at0 xs 4 * 19), .int .u64 (at0 ys 4)] W' fun e w' => e = .returned (WW (at0 xs 0 * at0 ys 3 + at0 xs 1 * at0 ys 2 + at0 xs 2 * at0 ys 1 + at0 xs 3 * at0 ys 0 + at0 xs 4 * 19 * at0 ys 4)) ∧ Below W'.heap.size W' w' := fun W' => HM _ _ _ _ W' (by decide) V3_4 (word1 hx 4) (word0 hy 4) T3_4
  have T4_0 := term0 hx hy 0 4
  have V4_1 : Bd 1 (at0 xs 0 * at0 ys 4) := Bd.one T4_0
  have M4_0 : ∀ W', Calls Tryd.prog 50 #[WW 0, .int .u64 (at0 xs 0), .int .u64 (at0 ys 4)] W' fun e w' => e = .returned (WW (at0 xs 0 * at0 ys 4)) ∧ Below W'.heap.size W' w' := fun W' => HM0 _ _ W' (word0 hx 0) (word0 hy 4) T4_0
  have T4_1 := term0 hx hy 1 3
  have V4_2 : Bd 2 (at0 xs 0 * at0 ys 4 + at0 xs 1 * at0 ys 3) := V4_1.step T4_1
  have M4_1 : ∀ W', Calls Tryd.prog 50 #[WW (at0 xs 0 * at0 ys 4), .int .u64 (at0 xs 1), .int .u64 (at0 ys 3)] W' fun e w' => e = .returned (WW (at0 xs 0 * at0 ys 4 + at0 xs 1 * at0 ys 3)) ∧ Below W'.heap.size W' w' := fun W' => HM _ _ _ _ W' (by decide) V4_1 (word0 hx 1) (word0 hy 3) T4_1
  have T4_2 := term0 hx hy 2 2
  have V4_3 : Bd 3 (at0 xs 0 * at0 ys 4 + at0 xs 1 * at0 ys 3 + at0 xs 2 * at0 ys 2) := V4_2.step T4_2
  have M4_2 : ∀ W', Calls Tryd.prog 50 #[WW (at0 xs 0 * at0 ys 4 + at0 xs 1 * at0 ys 3), .int .u64 (at0 xs 2), .int .u64 (at0 ys 2)] W' fun e w' => e = .returned (WW (at0 xs 0 * at0 ys 4 + at0 xs 1 * at0 ys 3 + at0 xs 2 * at0 ys 2)) ∧ Below W'.heap.size W' w' := fun W' => HM _ _ _ _ W' (by decide) V4_2 (word0 hx 2) (word0 hy 2) T4_2
  have T4_3 := term0 hx hy 3 1
  have V4_4 : Bd 4 (at0 xs 0 * at0 ys 4 + at0 xs 1 * at0 ys 3 + at0 xs 2 * at0 ys 2 + at0 xs 3 * at0 ys 1) := V4_3.step T4_3
  have M4_3 : ∀ W', Calls Tryd.prog 50 #[WW (at0 xs 0 * at0 ys 4 + at0 xs 1 * at0 ys 3 + at0 xs 2 * at0 ys 2), .int .u64 (at0 xs 3), .int .u64 (at0 ys 1)] W' fun e w' => e = .returned (WW (at0 xs 0 * at0 ys 4 + at0 xs 1 * at0 ys 3 + at0 xs 2 * at0 ys 2 + at0 xs 3 * at0 ys 1)) ∧ Below W'.heap.size W' w' := fun W' => HM _ _ _ _ W' (by decide) V4_3 (word0 hx 3) (word0 hy 1) T4_3
  have T4_4 := term0 hx hy 4 0
  have V4_5 : Bd 5 (at0 xs 0 * at0 ys 4 + at0 xs 1 * at0 ys 3 + at0 xs 2 * at0 ys 2 + at0 xs 3 * at0 ys 1 + at0 xs 4 * at0 ys 0) := V4_4.step T4_4
  have M4_4 : ∀ W', Calls Tryd.prog 50 #[WW (at0 xs 0 * at0 ys 4 + at0 xs 1 * at0 ys 3 + at0 xs 2 * at0 ys 2 + at0 xs 3 * at0 ys 1), .int .u64 (at0 xs 4), .int .u64 (at0 ys 0)] W' fun e w' => e = .returned (WW (at0 xs 0 * at0 ys 4 + at0 xs 1 * at0 ys 3 + at0 xs 2 * at0 ys 2 + at0 xs 3 * at0 ys 1 + at0 xs 4 * at0 ys 0)) ∧ Below W'.heap.size W' w' := fun W' => HM _ _ _ _ W' (by decide) V4_4 (word0 hx 4) (word0 hy 0) T4_4
  clear T0_0 T0_1 T0_2 T0_3 T0_4 T1_0 T1_1 T1_2 T1_3 T1_4 T2_0 T2_1 T2_2 T2_3 T2_4 T3_0 T3_1 T3_2 T3_3 T3_4 T4_0 T4_1 T4_2 T4_3 T4_4 V0_1 V0_2 V0_3 V0_4 V0_5 V1_1 V1_2 V1_3 V1_4 V1_5 V2_1 V2_2 V2_3 V2_4 V2_5 V3_1 V3_2 V3_3 V3_4 V3_5 V4_1 V4_2 V4_3 V4_4 V4_5 HM HM0
  replace M0_0 := Lib.hid M0_0
  replace M0_1 := Lib.hid M0_1
  replace M0_2 := Lib.hid M0_2
  replace M0_3 := Lib.hid M0_3
  replace M0_4 := Lib.hid M0_4
  replace M1_0 := Lib.hid M1_0
  replace M1_1 := Lib.hid M1_1
  replace M1_2 := Lib.hid M1_2
  replace M1_3 := Lib.hid M1_3
  replace M1_4 := Lib.hid M1_4
  replace M2_0 := Lib.hid M2_0
  replace M2_1 := Lib.hid M2_1
  replace M2_2 := Lib.hid M2_2
  replace M2_3 := Lib.hid M2_3
  replace M2_4 := Lib.hid M2_4
  replace M3_0 := Lib.hid M3_0
  replace M3_1 := Lib.hid M3_1
  replace M3_2 := Lib.hid M3_2
  replace M3_3 := Lib.hid M3_3
  replace M3_4 := Lib.hid M3_4
  replace M4_0 := Lib.hid M4_0
  replace M4_1 := Lib.hid M4_1
  replace M4_2 := Lib.hid M4_2
  replace M4_3 := Lib.hid M4_3
  replace M4_4 := Lib.hid M4_4
  have pr0 := prodR_bound hx hy 0; have pr1 := prodR_bound hx hy 1; have pr2 := prodR_bound hx hy 2; have pr3 := prodR_bound hx hy 3; have pr4 := prodR_bound hx hy 4
  have pr5 := prodR_bound4 hx hy
  have HP0 : WW (at0 xs 0 * at0 ys 0 + at0 xs 1 * 19 * at0 ys 4 + at0 xs 2 * 19 * at0 ys 3 + at0 xs 3 * 19 * at0 ys 2 + at0 xs 4 * 19 * at0 ys 1) = aggI .u64 [prodR xs ys 0 / 18446744073709551616, prodR xs ys 0 % 18446744073709551616] := by have h := hW (prodR xs ys 0); simp only [prodR] at h ⊢; exact h
  replace HP0 := Lib.hid HP0
  have HP1 : WW (at0 xs 0 * at0 ys 1 + at0 xs 1 * at0 ys 0 + at0 xs 2 * 19 * at0 ys 4 + at0 xs 3 * 19 * at0 ys 3 + at0 xs 4 * 19 * at0 ys 2) = aggI .u64 [prodR xs ys 1 / 18446744073709551616, prodR xs ys 1 % 18446744073709551616] := by have h := hW (prodR xs ys 1); simp only [prodR] at h ⊢; exact h
  replace HP1 := Lib.hid HP1
  have HP2 : WW (at0 xs 0 * at0 ys 2 + at0 xs 1 * at0 ys 1 + at0 xs 2 * at0 ys 0 + at0 xs 3 * 19 * at0 ys 4 + at0 xs 4 * 19 * at0 ys 3) = aggI .u64 [prodR xs ys 2 / 18446744073709551616, prodR xs ys 2 % 18446744073709551616] := by have h := hW (prodR xs ys 2); simp only [prodR] at h ⊢; exact h
  replace HP2 := Lib.hid HP2
  have HP3 : WW (at0 xs 0 * at0 ys 3 + at0 xs 1 * at0 ys 2 + at0 xs 2 * at0 ys 1 + at0 xs 3 * at0 ys 0 + at0 xs 4 * 19 * at0 ys 4) = aggI .u64 [prodR xs ys 3 / 18446744073709551616, prodR xs ys 3 % 18446744073709551616] := by have h := hW (prodR xs ys 3); simp only [prodR] at h ⊢; exact h
  replace HP3 := Lib.hid HP3
  have HP4 : WW (at0 xs 0 * at0 ys 4 + at0 xs 1 * at0 ys 3 + at0 xs 2 * at0 ys 2 + at0 xs 3 * at0 ys 1 + at0 xs 4 * at0 ys 0) = aggI .u64 [prodR xs ys 4 / 18446744073709551616, prodR xs ys 4 % 18446744073709551616] := by have h := hW (prodR xs ys 4); simp only [prodR] at h ⊢; exact h
  replace HP4 := Lib.hid HP4
  have HW := Lib.hid hW
  clear hW
  have mk0 : bits BinOp.and IntKind.u64 (prodR xs ys 0 % 18446744073709551616) 2251799813685247 = prodR xs ys 0 % 2251799813685248 := by rw [mask51 (by omega)]; omega
  have mk1 : bits BinOp.and IntKind.u64 (prodR xs ys 1 % 18446744073709551616) 2251799813685247 = prodR xs ys 1 % 2251799813685248 := by rw [mask51 (by omega)]; omega
  have mk2 : bits BinOp.and IntKind.u64 (prodR xs ys 2 % 18446744073709551616) 2251799813685247 = prodR xs ys 2 % 2251799813685248 := by rw [mask51 (by omega)]; omega
  have mk3 : bits BinOp.and IntKind.u64 (prodR xs ys 3 % 18446744073709551616) 2251799813685247 = prodR xs ys 3 % 2251799813685248 := by rw [mask51 (by omega)]; omega
  have mk4 : bits BinOp.and IntKind.u64 (prodR xs ys 4 % 18446744073709551616) 2251799813685247 = prodR xs ys 4 % 2251799813685248 := by rw [mask51 (by omega)]; omega
  have wm := wrap_id (x := prodR xs ys 4 / 2251799813685248 * 19) (by omega) (by omega)
  have ws0 := wrap_id (x := prodR xs ys 0 % 2251799813685248 + prodR xs ys 4 / 2251799813685248 * 19) (by omega) (by omega)
  have ws1 := wrap_id (x := prodR xs ys 1 % 2251799813685248 + prodR xs ys 0 / 2251799813685248) (by omega) (by omega)
  have ws2 := wrap_id (x := prodR xs ys 2 % 2251799813685248 + prodR xs ys 1 / 2251799813685248) (by omega) (by omega)
  have ws3 := wrap_id (x := prodR xs ys 3 % 2251799813685248 + prodR xs ys 2 / 2251799813685248) (by omega) (by omega)
  have ws4 := wrap_id (x := prodR xs ys 4 % 2251799813685248 + prodR xs ys 3 / 2251799813685248) (by omega) (by omega)
  replace mk0 := Lib.hid mk0
  replace mk1 := Lib.hid mk1
  replace mk2 := Lib.hid mk2
  replace mk3 := Lib.hid mk3
  replace mk4 := Lib.hid mk4
  replace wm := Lib.hid wm
  replace ws0 := Lib.hid ws0
  replace ws1 := Lib.hid ws1
  replace ws2 := Lib.hid ws2
  replace ws3 := Lib.hid ws3
  replace ws4 := Lib.hid ws4
  go_enter Tryd.func38, Tryd.ntmps38
  go_wp2_with (first
    | (with_reducible refine at_op (o := ⟨some 2, _, _, _, _, _⟩) ?_; refine wpList_boxI rfl 38 _ rfl .u64 xs rfl ?_; intro w1 A1 s1 b1)
    | (with_reducible refine at_op (o := ⟨some 3, _, _, _, _, _⟩) ?_; refine wpList_boxI rfl 38 _ rfl .u64 ys rfl ?_; intro w2 A2 s2 b2; have X2 := A1.below b2)
    | (with_reducible refine at_op (o := ⟨some 4, _, _, _, _, _⟩) ?_; refine wpList_allocI rfl 38 rfl .u64 5 zero_limbs ?_; intro w3 A3 s3 b3; have X3 := X2.below b3; have Y3 := A2.below b3))
  have c0 := X3.cell (k := 0) (by omega); have c1 := X3.cell (k := 1) (by omega); have c2 := X3.cell (k := 2) (by omega); have c3 := X3.cell (k := 3) (by omega); have c4 := X3.cell (k := 4) (by omega)
  go_quiet (fail)
  clear c0 c1 c2 c3 c4
  generalize nq = n0 at *
  go_wp2
  have c0 := Y3.cell (k := 0) (by omega); have c1 := Y3.cell (k := 1) (by omega); have c2 := Y3.cell (k := 2) (by omega); have c3 := Y3.cell (k := 3) (by omega); have c4 := Y3.cell (k := 4) (by omega)
  go_quiet (fail)
  clear c0 c1 c2 c3 c4
  have R := A3.drewN (n0 + nq)
  have hbel := below_drewN (below_then (below_then b1 b2) b3) (n0 + nq)
  have hbel0 := hbel.size
  go_wp2_with (first
    | (with_reducible refine at_op (o := ⟨_, .build 57 #[], _, _, _, _⟩) ?_; refine wpList_wide0 rfl rfl ?_; rw [← HW.out])
    | (go_at_call 50; (first | (with_reducible refine (M0_0.out _).mono ?_) | (with_reducible refine (M0_1.out _).mono ?_) | (with_reducible refine (M0_2.out _).mono ?_) | (with_reducible refine (M0_3.out _).mono ?_) | (with_reducible refine (M0_4.out _).mono ?_) | (with_reducible refine (M1_0.out _).mono ?_) | (with_reducible refine (M1_1.out _).mono ?_) | (with_reducible refine (M1_2.out _).mono ?_) | (with_reducible refine (M1_3.out _).mono ?_) | (with_reducible refine (M1_4.out _).mono ?_) | (with_reducible refine (M2_0.out _).mono ?_) | (with_reducible refine (M2_1.out _).mono ?_) | (with_reducible refine (M2_2.out _).mono ?_) | (with_reducible refine (M2_3.out _).mono ?_) | (with_reducible refine (M2_4.out _).mono ?_) | (with_reducible refine (M3_0.out _).mono ?_) | (with_reducible refine (M3_1.out _).mono ?_) | (with_reducible refine (M3_2.out _).mono ?_) | (with_reducible refine (M3_3.out _).mono ?_) | (with_reducible refine (M3_4.out _).mono ?_) | (with_reducible refine (M4_0.out _).mono ?_) | (with_reducible refine (M4_1.out _).mono ?_) | (with_reducible refine (M4_2.out _).mono ?_) | (with_reducible refine (M4_3.out _).mono ?_) | (with_reducible refine (M4_4.out _).mono ?_)); rintro e wN ⟨rfl, bN⟩; replace R := R.below bN; (try replace Q0 := Q0.below bN); (try replace Q1 := Q1.below bN); (try replace Q2 := Q2.below bN); (try replace Q3 := Q3.below bN); replace hbel := below_then hbel bN)
    | (with_reducible refine at_op (o := ⟨some 19, _, _, _, _, _⟩) ?_; go_loud (refine wpList_newI rfl rfl 57 19 _ rfl rfl rfl rfl .u64 2 zero_wide info_wide (by first | decide | simp) ([prodR xs ys 0 / 18446744073709551616, prodR xs ys 0 % 18446744073709551616]) (by simp) (by simp [Act.eval]; exact HP0.out) (rfl) ?_); intro w19 B0 h19 l19 Q0 b19; have bB0 : w.heap.size ≤ B0 := Nat.le_trans hbel.size h19; have nR0 : w2.heap.size < B0 := Nat.lt_of_lt_of_le R.lt h19; replace R := R.below b19; (try replace Q1 := Q1.below b19); (try replace Q2 := Q2.below b19); (try replace Q3 := Q3.below b19); replace hbel := below_then hbel b19)
    | (with_reducible refine at_op (o := ⟨some 20, _, _, _, _, _⟩) ?_; go_loud (refine wpList_newI rfl rfl 57 20 _ rfl rfl rfl rfl .u64 2 zero_wide info_wide (by first | decide | simp) ([prodR xs ys 1 / 18446744073709551616, prodR xs ys 1 % 18446744073709551616]) (by simp) (by simp [Act.eval]; exact HP1.out) (rfl) ?_); intro w20 B1 h20 l20 Q1 b20; have bB1 : w.heap.size ≤ B1 := Nat.le_trans hbel.size h20; have nR1 : w2.heap.size < B1 := Nat.lt_of_lt_of_le R.lt h20; replace R := R.below b20; (try replace Q0 := Q0.below b20); (try replace Q2 := Q2.below b20); (try replace Q3 := Q3.below b20); replace hbel := below_then hbel b20)
    | (with_reducible refine at_op (o := ⟨some 21, _, _, _, _, _⟩) ?_; go_loud (refine wpList_newI rfl rfl 57 21 _ rfl rfl rfl rfl .u64 2 zero_wide info_wide (by first | decide | simp) ([prodR xs ys 2 / 18446744073709551616, prodR xs ys 2 % 18446744073709551616]) (by simp) (by simp [Act.eval]; exact HP2.out) (rfl) ?_); intro w21 B2 h21 l21 Q2 b21; have bB2 : w.heap.size ≤ B2 := Nat.le_trans hbel.size h21; have nR2 : w2.heap.size < B2 := Nat.lt_of_lt_of_le R.lt h21; replace R := R.below b21; (try replace Q0 := Q0.below b21); (try replace Q1 := Q1.below b21); (try replace Q3 := Q3.below b21); replace hbel := below_then hbel b21)
    | (with_reducible refine at_op (o := ⟨some 22, _, _, _, _, _⟩) ?_; go_loud (refine wpList_newI rfl rfl 57 22 _ rfl rfl rfl rfl .u64 2 zero_wide info_wide (by first | decide | simp) ([prodR xs ys 3 / 18446744073709551616, prodR xs ys 3 % 18446744073709551616]) (by simp) (by simp [Act.eval]; exact HP3.out) (rfl) ?_); intro w22 B3 h22 l22 Q3 b22; have bB3 : w.heap.size ≤ B3 := Nat.le_trans hbel.size h22; have nR3 : w2.heap.size < B3 := Nat.lt_of_lt_of_le R.lt h22; replace R := R.below b22; (try replace Q0 := Q0.below b22); (try replace Q1 := Q1.below b22); (try replace Q2 := Q2.below b22); replace hbel := below_then hbel b22)
    | (with_reducible refine at_op (o := ⟨some 23, _, _, _, _, _⟩) ?_; go_loud (refine wpList_newI rfl rfl 57 23 _ rfl rfl rfl rfl .u64 2 zero_wide info_wide (by first | decide | simp) ([prodR xs ys 4 / 18446744073709551616, prodR xs ys 4 % 18446744073709551616]) (by simp) (by simp [Act.eval]; exact HP4.out) (rfl) ?_); intro w23 B4 h23 l23 Q4 b23; have bB4 : w.heap.size ≤ B4 := Nat.le_trans hbel.size h23; have nR4 : w2.heap.size < B4 := Nat.lt_of_lt_of_le R.lt h23; replace R := R.below b23; (try replace Q0 := Q0.below b23); (try replace Q1 := Q1.below b23); (try replace Q2 := Q2.below b23); (try replace Q3 := Q3.below b23); replace hbel := below_then hbel b23))
  simp only [Act.put, List.setIfInBounds_toArray, List.set_cons_zero, List.set_cons_succ]
  clear HW HP0 HP1 HP2 HP3 HP4 M0_0 M0_1 M0_2 M0_3 M0_4 M1_0 M1_1 M1_2 M1_3 M1_4 M2_0 M2_1 M2_2 M2_3 M2_4 M3_0 M3_1 M3_2 M3_3 M3_4 M4_0 M4_1 M4_2 M4_3 M4_4 x0 x1 x2 x3 x4 y0 y1 y2 y3 y4 z1 z2 z3 z4
  refine wp_abs fun a0 hAct => ?_
  have hAsz : a0.tmps.size = 165 := by rw [hAct]; simp
  have hAdef : a0.defers = [] := by rw [hAct]
  have hI19 : a0.eval (.tmp 19) = .pointer (some ⟨B0, 0, none⟩) := by rw [hAct]; simp [Act.eval]
  have hI20 : a0.eval (.tmp 20) = .pointer (some ⟨B1, 0, none⟩) := by rw [hAct]; simp [Act.eval]
  have hI21 : a0.eval (.tmp 21) = .pointer (some ⟨B2, 0, none⟩) := by rw [hAct]; simp [Act.eval]
  have hI22 : a0.eval (.tmp 22) = .pointer (some ⟨B3, 0, none⟩) := by rw [hAct]; simp [Act.eval]
  have hI23 : a0.eval (.tmp 23) = .pointer (some ⟨B4, 0, none⟩) := by rw [hAct]; simp [Act.eval]
  have hI4 : a0.eval (.tmp 4) = .pointer (some ⟨w2.heap.size, 0, none⟩) := by rw [hAct]; simp [Act.eval]
  clear hAct
  refine wp_region_ord [[], [0], [1], [], [3], [4], [2, 5], [], [7], [8], [], [10, 4], [9, 11], [], [13], [14], [], [16, 11], [15, 17], [], [19], [20], [], [22, 17], [21, 23], [], [25], [26], [], [28, 23], [27, 29], [6, 12, 18, 24, 30], [31, 29], [32, 32, 0, 1, 2, 3, 4, 5, 6, 7, 8, 9, 10, 11, 12, 13, 14, 15, 16, 17, 18, 19, 20, 21, 22, 23, 24, 25, 26, 27, 28, 29, 30, 31, 32]] [some 132, some 133, some 134, some 135, some 136, some 137, some 138, some 139, some 140, some 141, some 142, some 143, some 144, some 145, some 146, some 147, some 148, some 149, some 150, some 151, some 152, some 153, some 154, some 155, some 156, some 157, some 158, some 159, some 160, some 161, some 162, some 163, some 164, none] 33 (fun b w' => (Arr .u64 w' B0 [prodR xs ys 0 / 18446744073709551616, prodR xs ys 0 % 18446744073709551616] ∧ Arr .u64 w' B1 [prodR xs ys 1 / 18446744073709551616, prodR xs ys 1 % 18446744073709551616] ∧ Arr .u64 w' B2 [prodR xs ys 2 / 18446744073709551616, prodR xs ys 2 % 18446744073709551616] ∧ Arr .u64 w' B3 [prodR xs ys 3 / 18446744073709551616, prodR xs ys 3 % 18446744073709551616] ∧ Arr .u64 w' B4 [prodR xs ys 4 / 18446744073709551616, prodR xs ys 4 % 18446744073709551616]) ∧ Arr .u64 w' w2.heap.size (if b then carriedS (timesL xs ys) else List.replicate 5 0) ∧ Below w.heap.size w w') (fun opn f _ => match opn with | 0 => f 0 = .pointer (some ⟨B0, 1, none⟩) | 1 => f 1 = .int .u64 (prodR xs ys 0 % 18446744073709551616) | 2 => f 2 = .int .u64 (prodR xs ys 0 % 2251799813685248) | 3 => f 3 = aggI .u64 [prodR xs ys 4 / 18446744073709551616, prodR xs ys 4 % 18446744073709551616] | 4 => f 4 = .int .u64 (prodR xs ys 4 / 2251799813685248) | 5 => f 5 = .int .u64 (prodR xs ys 4 / 2251799813685248 * 19) | 6 => f 6 = .int .u64 (prodR xs ys 0 % 2251799813685248 + prodR xs ys 4 / 2251799813685248 * 19) | 7 => f 7 = .pointer (some ⟨B1, 1, none⟩) | 8 => f 8 = .int .u64 (prodR xs ys 1 % 18446744073709551616) | 9 => f 9 = .int .u64 (prodR xs ys 1 % 2251799813685248) | 10 => f 10 = aggI .u64 [prodR xs ys 0 / 18446744073709551616, prodR xs ys 0 % 18446744073709551616] | 11 => f 11 = .int .u64 (prodR xs ys 0 / 2251799813685248) | 12 => f 12 = .int .u64 (prodR xs ys 1 % 2251799813685248 + prodR xs ys 0 / 2251799813685248) | 13 => f 13 = .pointer (some ⟨B2, 1, none⟩) | 14 => f 14 = .int .u64 (prodR xs ys 2 % 18446744073709551616) | 15 => f 15 = .int .u64 (prodR xs ys 2 % 2251799813685248) | 16 => f 16 = aggI .u64 [prodR xs ys 1 / 18446744073709551616, prodR xs ys 1 % 18446744073709551616] | 17 => f 17 = .int .u64 (prodR xs ys 1 / 2251799813685248) | 18 => f 18 = .int .u64 (prodR xs ys 2 % 2251799813685248 + prodR xs ys 1 / 2251799813685248) | 19 => f 19 = .pointer (some ⟨B3, 1, none⟩) | 20 => f 20 = .int .u64 (prodR xs ys 3 % 18446744073709551616) | 21 => f 21 = .int .u64 (prodR xs ys 3 % 2251799813685248) | 22 => f 22 = aggI .u64 [prodR xs ys 2 / 18446744073709551616, prodR xs ys 2 % 18446744073709551616] | 23 => f 23 = .int .u64 (prodR xs ys 2 / 2251799813685248) | 24 => f 24 = .int .u64 (prodR xs ys 3 % 2251799813685248 + prodR xs ys 2 / 2251799813685248) | 25 => f 25 = .pointer (some ⟨B4, 1, none⟩) | 26 => f 26 = .int .u64 (prodR xs ys 4 % 18446744073709551616) | 27 => f 27 = .int .u64 (prodR xs ys 4 % 2251799813685248) | 28 => f 28 = aggI .u64 [prodR xs ys 3 / 18446744073709551616, prodR xs ys 3 % 18446744073709551616] | 29 => f 29 = .int .u64 (prodR xs ys 3 / 2251799813685248) | 30 => f 30 = .int .u64 (prodR xs ys 4 % 2251799813685248 + prodR xs ys 3 / 2251799813685248) | 31 => f 31 = aggI .u64 (timesL xs ys) | 32 => f 32 = aggI .u64 (carriedS (timesL xs ys)) | 33 => f 33 = undef | _ => True) (fun _ v v' => ∃ cs, v' = v.setRow w2.heap.size cs) (by kernel_rfl) (by kernel_rfl) (by kernel_rfl) (by kernel_rfl) (fun b v v' hb h => ⟨⟨h.1.1.below hb, h.1.2.1.below hb, h.1.2.2.1.below hb, h.1.2.2.2.1.below hb, h.1.2.2.2.2.below hb⟩, h.2.1.below hb, below_then h.2.2 hb⟩) (fun _ _ _ _ _ h => h) (fun _ _ _ _ _ _ _ h => h) ⟨⟨Q0.drew, Q1.drew, Q2.drew, Q3.drew, Q4.drew⟩, R.drew, hbel.drew⟩ ?_ ?_
  ·
    refine StepL.other (k := 0) rfl (fun b f W hb hG hH => ?_) ?_
    · -- 0
      obtain rfl := hb rfl
      clear hH
      generalize hA : putL _ _ _ _ = A
      have q19 : A.eval (.tmp 19) = .pointer (some ⟨B0, 0, none⟩) := by rw [← hA]; exact putL_none rfl hAsz rfl hI19
      have r19 : A.tmps[19]?.getD undef = .pointer (some ⟨B0, 0, none⟩) := slot_get q19
      clear hA
      refine Does.pure rfl (.pointer (some ⟨B0, 1, none⟩)) ?_ ⟨Below.refl _ _, rfl⟩
      go_simp
    refine StepL.other (k := 1) rfl (fun b f W hb hG hH => ?_) ?_
    · -- 1
      obtain rfl := hb rfl
      obtain ⟨d0, -⟩ : (f 0 = .pointer (some ⟨B0, 1, none⟩)) ∧ True := hH
      generalize hA : putL _ _ _ _ = A
      have q132 : A.eval (.tmp 132) = .pointer (some ⟨B0, 1, none⟩) := by rw [← hA]; exact putL_look rfl hAsz rfl d0
      have r132 : A.tmps[132]?.getD undef = .pointer (some ⟨B0, 1, none⟩) := slot_get q132
      clear hA
      have c0 := (hG.1.1).cell (k := 1) (by simp)
      have e0 : at0 [prodR xs ys 0 / 18446744073709551616, prodR xs ys 0 % 18446744073709551616] 1 = prodR xs ys 0 % 18446744073709551616 := rfl
      rw [e0] at c0
      refine Does.pure rfl (.int .u64 (prodR xs ys 0 % 18446744073709551616)) ?_ ⟨Below.refl _ _, rfl⟩
      go_simp
    refine StepL.other (k := 2) rfl (fun b f W hb hG hH => ?_) ?_
    · -- 2
      obtain rfl := hb rfl
      obtain ⟨d1, -⟩ : (f 1 = .int .u64 (prodR xs ys 0 % 18446744073709551616)) ∧ True := hH
      generalize hA : putL _ _ _ _ = A
      have q133 : A.eval (.tmp 133) = .int .u64 (prodR xs ys 0 % 18446744073709551616) := by rw [← hA]; exact putL_look rfl hAsz rfl d1
      have r133 : A.tmps[133]?.getD undef = .int .u64 (prodR xs ys 0 % 18446744073709551616) := slot_get q133
      clear hA
      have e0 := mk0.out
      refine Does.pure rfl (.int .u64 (prodR xs ys 0 % 2251799813685248)) ?_ ⟨Below.refl _ _, rfl⟩
      go_simp
    refine StepL.other (k := 3) rfl (fun b f W hb hG hH => ?_) ?_
    · -- 3
      obtain rfl := hb rfl
      clear hH
      generalize hA : putL _ _ _ _ = A
      have q23 : A.eval (.tmp 23) = .pointer (some ⟨B4, 0, none⟩) := by rw [← hA]; exact putL_none rfl hAsz rfl hI23
      have r23 : A.tmps[23]?.getD undef = .pointer (some ⟨B4, 0, none⟩) := slot_get q23
      clear hA
      exact Does.loadS rfl 57 _ rfl 2 _ Tryd.underlying57 info_wide B4 q23 .u64 [prodR xs ys 4 / 18446744073709551616, prodR xs ys 4 % 18446744073709551616] (hG.1.2.2.2.2) rfl ⟨Below.refl _ _, rfl⟩
    refine StepL.other (k := 4) rfl (fun b f W hb hG hH => ?_) ?_
    · -- 4
      obtain rfl := hb rfl
      obtain ⟨d3, -⟩ : (f 3 = aggI .u64 [prodR xs ys 4 / 18446744073709551616, prodR xs ys 4 % 18446744073709551616]) ∧ True := hH
      generalize hA : putL _ _ _ _ = A
      have q135 : A.eval (.tmp 135) = aggI .u64 [prodR xs ys 4 / 18446744073709551616, prodR xs ys 4 % 18446744073709551616] := by rw [← hA]; exact putL_look rfl hAsz rfl d3
      have r135 : A.tmps[135]?.getD undef = aggI .u64 [prodR xs ys 4 / 18446744073709551616, prodR xs ys 4 % 18446744073709551616] := slot_get q135
      clear hA
      have HS : Calls Tryd.prog 51 #[aggI .u64 [prodR xs ys 4 / 18446744073709551616, prodR xs ys 4 % 18446744073709551616]] W fun e w' => e = .returned (.int .u64 (prodR xs ys 4 / 2251799813685248)) ∧ Below W.heap.size W w' := shifted_any (prodR xs ys 4) W (pr4).1 (by have := (pr4).2; omega)
      refine Does.call rfl _ _ (by go_simp) ((HS).mono ?_)
      rintro e w' ⟨rfl, hb'⟩
      exact ⟨_, rfl, hb', rfl⟩
    refine StepL.other (k := 5) rfl (fun b f W hb hG hH => ?_) ?_
    · -- 5
      obtain rfl := hb rfl
      obtain ⟨d4, -⟩ : (f 4 = .int .u64 (prodR xs ys 4 / 2251799813685248)) ∧ True := hH
      generalize hA : putL _ _ _ _ = A
      have q136 : A.eval (.tmp 136) = .int .u64 (prodR xs ys 4 / 2251799813685248) := by rw [← hA]; exact putL_look rfl hAsz rfl d4
      have r136 : A.tmps[136]?.getD undef = .int .u64 (prodR xs ys 4 / 2251799813685248) := slot_get q136
      clear hA
      have e0 := wm.out
      refine Does.pure rfl (.int .u64 (prodR xs ys 4 / 2251799813685248 * 19)) ?_ ⟨Below.refl _ _, rfl⟩
      go_simp
    refine StepL.other (k := 6) rfl (fun b f W hb hG hH => ?_) ?_
    · -- 6
      obtain rfl := hb rfl
      obtain ⟨d2, d5, -⟩ : (f 2 = .int .u64 (prodR xs ys 0 % 2251799813685248)) ∧ (f 5 = .int .u64 (prodR xs ys 4 / 2251799813685248 * 19)) ∧ True := hH
      generalize hA : putL _ _ _ _ = A
      have q134 : A.eval (.tmp 134) = .int .u64 (prodR xs ys 0 % 2251799813685248) := by rw [← hA]; exact putL_look rfl hAsz rfl d2
      have r134 : A.tmps[134]?.getD undef = .int .u64 (prodR xs ys 0 % 2251799813685248) := slot_get q134
      have q137 : A.eval (.tmp 137) = .int .u64 (prodR xs ys 4 / 2251799813685248 * 19) := by rw [← hA]; exact putL_look rfl hAsz rfl d5
      have r137 : A.tmps[137]?.getD undef = .int .u64 (prodR xs ys 4 / 2251799813685248 * 19) := slot_get q137
      clear hA
      have e0 := ws0.out
      refine Does.pure rfl (.int .u64 (prodR xs ys 0 % 2251799813685248 + prodR xs ys 4 / 2251799813685248 * 19)) ?_ ⟨Below.refl _ _, rfl⟩
      go_simp
    refine StepL.other (k := 7) rfl (fun b f W hb hG hH => ?_) ?_
    · -- 7
      obtain rfl := hb rfl
      clear hH
      generalize hA : putL _ _ _ _ = A
      have q20 : A.eval (.tmp 20) = .pointer (some ⟨B1, 0, none⟩) := by rw [← hA]; exact putL_none rfl hAsz rfl hI20
      have r20 : A.tmps[20]?.getD undef = .pointer (some ⟨B1, 0, none⟩) := slot_get q20
      clear hA
      refine Does.pure rfl (.pointer (some ⟨B1, 1, none⟩)) ?_ ⟨Below.refl _ _, rfl⟩
      go_simp
    refine StepL.other (k := 8) rfl (fun b f W hb hG hH => ?_) ?_
    · -- 8
      obtain rfl := hb rfl
      obtain ⟨d7, -⟩ : (f 7 = .pointer (some ⟨B1, 1, none⟩)) ∧ True := hH
      generalize hA : putL _ _ _ _ = A
      have q139 : A.eval (.tmp 139) = .pointer (some ⟨B1, 1, none⟩) := by rw [← hA]; exact putL_look rfl hAsz rfl d7
      have r139 : A.tmps[139]?.getD undef = .pointer (some ⟨B1, 1, none⟩) := slot_get q139
      clear hA
      have c0 := (hG.1.2.1).cell (k := 1) (by simp)
      have e0 : at0 [prodR xs ys 1 / 18446744073709551616, prodR xs ys 1 % 18446744073709551616] 1 = prodR xs ys 1 % 18446744073709551616 := rfl
      rw [e0] at c0
      refine Does.pure rfl (.int .u64 (prodR xs ys 1 % 18446744073709551616)) ?_ ⟨Below.refl _ _, rfl⟩
      go_simp
    refine StepL.other (k := 9) rfl (fun b f W hb hG hH => ?_) ?_
    · -- 9
      obtain rfl := hb rfl
      obtain ⟨d8, -⟩ : (f 8 = .int .u64 (prodR xs ys 1 % 18446744073709551616)) ∧ True := hH
      generalize hA : putL _ _ _ _ = A
      have q140 : A.eval (.tmp 140) = .int .u64 (prodR xs ys 1 % 18446744073709551616) := by rw [← hA]; exact putL_look rfl hAsz rfl d8
      have r140 : A.tmps[140]?.getD undef = .int .u64 (prodR xs ys 1 % 18446744073709551616) := slot_get q140
      clear hA
      have e0 := mk1.out
      refine Does.pure rfl (.int .u64 (prodR xs ys 1 % 2251799813685248)) ?_ ⟨Below.refl _ _, rfl⟩
      go_simp
    refine StepL.other (k := 10) rfl (fun b f W hb hG hH => ?_) ?_
    · -- 10
      obtain rfl := hb rfl
      clear hH
      generalize hA : putL _ _ _ _ = A
      have q19 : A.eval (.tmp 19) = .pointer (some ⟨B0, 0, none⟩) := by rw [← hA]; exact putL_none rfl hAsz rfl hI19
      have r19 : A.tmps[19]?.getD undef = .pointer (some ⟨B0, 0, none⟩) := slot_get q19
      clear hA
      exact Does.loadS rfl 57 _ rfl 2 _ Tryd.underlying57 info_wide B0 q19 .u64 [prodR xs ys 0 / 18446744073709551616, prodR xs ys 0 % 18446744073709551616] (hG.1.1) rfl ⟨Below.refl _ _, rfl⟩
    refine StepL.other (k := 11) rfl (fun b f W hb hG hH => ?_) ?_
    · -- 11
      obtain rfl := hb rfl
      obtain ⟨d10, d4, -⟩ : (f 10 = aggI .u64 [prodR xs ys 0 / 18446744073709551616, prodR xs ys 0 % 18446744073709551616]) ∧ (f 4 = .int .u64 (prodR xs ys 4 / 2251799813685248)) ∧ True := hH
      generalize hA : putL _ _ _ _ = A
      have q142 : A.eval (.tmp 142) = aggI .u64 [prodR xs ys 0 / 18446744073709551616, prodR xs ys 0 % 18446744073709551616] := by rw [← hA]; exact putL_look rfl hAsz rfl d10
      have r142 : A.tmps[142]?.getD undef = aggI .u64 [prodR xs ys 0 / 18446744073709551616, prodR xs ys 0 % 18446744073709551616] := slot_get q142
      clear hA
      have HS : Calls Tryd.prog 51 #[aggI .u64 [prodR xs ys 0 / 18446744073709551616, prodR xs ys 0 % 18446744073709551616]] W fun e w' => e = .returned (.int .u64 (prodR xs ys 0 / 2251799813685248)) ∧ Below W.heap.size W w' := shifted_any (prodR xs ys 0) W (pr0).1 (by have := (pr0).2; omega)
      refine Does.call rfl _ _ (by go_simp) ((HS).mono ?_)
      rintro e w' ⟨rfl, hb'⟩
      exact ⟨_, rfl, hb', rfl⟩
    refine StepL.other (k := 12) rfl (fun b f W hb hG hH => ?_) ?_
    · -- 12
      obtain rfl := hb rfl
      obtain ⟨d9, d11, -⟩ : (f 9 = .int .u64 (prodR xs ys 1 % 2251799813685248)) ∧ (f 11 = .int .u64 (prodR xs ys 0 / 2251799813685248)) ∧ True := hH
      generalize hA : putL _ _ _ _ = A
      have q141 : A.eval (.tmp 141) = .int .u64 (prodR xs ys 1 % 2251799813685248) := by rw [← hA]; exact putL_look rfl hAsz rfl d9
      have r141 : A.tmps[141]?.getD undef = .int .u64 (prodR xs ys 1 % 2251799813685248) := slot_get q141
      have q143 : A.eval (.tmp 143) = .int .u64 (prodR xs ys 0 / 2251799813685248) := by rw [← hA]; exact putL_look rfl hAsz rfl d11
      have r143 : A.tmps[143]?.getD undef = .int .u64 (prodR xs ys 0 / 2251799813685248) := slot_get q143
      clear hA
      have e0 := ws1.out
      refine Does.pure rfl (.int .u64 (prodR xs ys 1 % 2251799813685248 + prodR xs ys 0 / 2251799813685248)) ?_ ⟨Below.refl _ _, rfl⟩
      go_simp
    refine StepL.other (k := 13) rfl (fun b f W hb hG hH => ?_) ?_
    · -- 13
      obtain rfl := hb rfl
      clear hH
      generalize hA : putL _ _ _ _ = A
      have q21 : A.eval (.tmp 21) = .pointer (some ⟨B2, 0, none⟩) := by rw [← hA]; exact putL_none rfl hAsz rfl hI21
      have r21 : A.tmps[21]?.getD undef = .pointer (some ⟨B2, 0, none⟩) := slot_get q21
      clear hA
      refine Does.pure rfl (.pointer (some ⟨B2, 1, none⟩)) ?_ ⟨Below.refl _ _, rfl⟩
      go_simp
    refine StepL.other (k := 14) rfl (fun b f W hb hG hH => ?_) ?_
    · -- 14
      obtain rfl := hb rfl
      obtain ⟨d13, -⟩ : (f 13 = .pointer (some ⟨B2, 1, none⟩)) ∧ True := hH
      generalize hA : putL _ _ _ _ = A
      have q145 : A.eval (.tmp 145) = .pointer (some ⟨B2, 1, none⟩) := by rw [← hA]; exact putL_look rfl hAsz rfl d13
      have r145 : A.tmps[145]?.getD undef = .pointer (some ⟨B2, 1, none⟩) := slot_get q145
      clear hA
      have c0 := (hG.1.2.2.1).cell (k := 1) (by simp)
      have e0 : at0 [prodR xs ys 2 / 18446744073709551616, prodR xs ys 2 % 18446744073709551616] 1 = prodR xs ys 2 % 18446744073709551616 := rfl
      rw [e0] at c0
      refine Does.pure rfl (.int .u64 (prodR xs ys 2 % 18446744073709551616)) ?_ ⟨Below.refl _ _, rfl⟩
      go_simp
    refine StepL.other (k := 15) rfl (fun b f W hb hG hH => ?_) ?_
    · -- 15
      obtain rfl := hb rfl
      obtain ⟨d14, -⟩ : (f 14 = .int .u64 (prodR xs ys 2 % 18446744073709551616)) ∧ True := hH
      generalize hA : putL _ _ _ _ = A
      have q146 : A.eval (.tmp 146) = .int .u64 (prodR xs ys 2 % 18446744073709551616) := by rw [← hA]; exact putL_look rfl hAsz rfl d14
      have r146 : A.tmps[146]?.getD undef = .int .u64 (prodR xs ys 2 % 18446744073709551616) := slot_get q146
      clear hA
      have e0 := mk2.out
      refine Does.pure rfl (.int .u64 (prodR xs ys 2 % 2251799813685248)) ?_ ⟨Below.refl _ _, rfl⟩
      go_simp
    refine StepL.other (k := 16) rfl (fun b f W hb hG hH => ?_) ?_
    · -- 16
      obtain rfl := hb rfl
      clear hH
      generalize hA : putL _ _ _ _ = A
      have q20 : A.eval (.tmp 20) = .pointer (some ⟨B1, 0, none⟩) := by rw [← hA]; exact putL_none rfl hAsz rfl hI20
      have r20 : A.tmps[20]?.getD undef = .pointer (some ⟨B1, 0, none⟩) := slot_get q20
      clear hA
      exact Does.loadS rfl 57 _ rfl 2 _ Tryd.underlying57 info_wide B1 q20 .u64 [prodR xs ys 1 / 18446744073709551616, prodR xs ys 1 % 18446744073709551616] (hG.1.2.1) rfl ⟨Below.refl _ _, rfl⟩
    refine StepL.other (k := 17) rfl (fun b f W hb hG hH => ?_) ?_
    · -- 17
      obtain rfl := hb rfl
      obtain ⟨d16, d11, -⟩ : (f 16 = aggI .u64 [prodR xs ys 1 / 18446744073709551616, prodR xs ys 1 % 18446744073709551616]) ∧ (f 11 = .int .u64 (prodR xs ys 0 / 2251799813685248)) ∧ True := hH
      generalize hA : putL _ _ _ _ = A
      have q148 : A.eval (.tmp 148) = aggI .u64 [prodR xs ys 1 / 18446744073709551616, prodR xs ys 1 % 18446744073709551616] := by rw [← hA]; exact putL_look rfl hAsz rfl d16
      have r148 : A.tmps[148]?.getD undef = aggI .u64 [prodR xs ys 1 / 18446744073709551616, prodR xs ys 1 % 18446744073709551616] := slot_get q148
      clear hA
      have HS : Calls Tryd.prog 51 #[aggI .u64 [prodR xs ys 1 / 18446744073709551616, prodR xs ys 1 % 18446744073709551616]] W fun e w' => e = .returned (.int .u64 (prodR xs ys 1 / 2251799813685248)) ∧ Below W.heap.size W w' := shifted_any (prodR xs ys 1) W (pr1).1 (by have := (pr1).2; omega)
      refine Does.call rfl _ _ (by go_simp) ((HS).mono ?_)
      rintro e w' ⟨rfl, hb'⟩
      exact ⟨_, rfl, hb', rfl⟩
    refine StepL.other (k := 18) rfl (fun b f W hb hG hH => ?_) ?_
    · -- 18
      obtain rfl := hb rfl
      obtain ⟨d15, d17, -⟩ : (f 15 = .int .u64 (prodR xs ys 2 % 2251799813685248)) ∧ (f 17 = .int .u64 (prodR xs ys 1 / 2251799813685248)) ∧ True := hH
      generalize hA : putL _ _ _ _ = A
      have q147 : A.eval (.tmp 147) = .int .u64 (prodR xs ys 2 % 2251799813685248) := by rw [← hA]; exact putL_look rfl hAsz rfl d15
      have r147 : A.tmps[147]?.getD undef = .int .u64 (prodR xs ys 2 % 2251799813685248) := slot_get q147
      have q149 : A.eval (.tmp 149) = .int .u64 (prodR xs ys 1 / 2251799813685248) := by rw [← hA]; exact putL_look rfl hAsz rfl d17
      have r149 : A.tmps[149]?.getD undef = .int .u64 (prodR xs ys 1 / 2251799813685248) := slot_get q149
      clear hA
      have e0 := ws2.out
      refine Does.pure rfl (.int .u64 (prodR xs ys 2 % 2251799813685248 + prodR xs ys 1 / 2251799813685248)) ?_ ⟨Below.refl _ _, rfl⟩
      go_simp
    refine StepL.other (k := 19) rfl (fun b f W hb hG hH => ?_) ?_
    · -- 19
      obtain rfl := hb rfl
      clear hH
      generalize hA : putL _ _ _ _ = A
      have q22 : A.eval (.tmp 22) = .pointer (some ⟨B3, 0, none⟩) := by rw [← hA]; exact putL_none rfl hAsz rfl hI22
      have r22 : A.tmps[22]?.getD undef = .pointer (some ⟨B3, 0, none⟩) := slot_get q22
      clear hA
      refine Does.pure rfl (.pointer (some ⟨B3, 1, none⟩)) ?_ ⟨Below.refl _ _, rfl⟩
      go_simp
    refine StepL.other (k := 20) rfl (fun b f W hb hG hH => ?_) ?_
    · -- 20
      obtain rfl := hb rfl
      obtain ⟨d19, -⟩ : (f 19 = .pointer (some ⟨B3, 1, none⟩)) ∧ True := hH
      generalize hA : putL _ _ _ _ = A
      have q151 : A.eval (.tmp 151) = .pointer (some ⟨B3, 1, none⟩) := by rw [← hA]; exact putL_look rfl hAsz rfl d19
      have r151 : A.tmps[151]?.getD undef = .pointer (some ⟨B3, 1, none⟩) := slot_get q151
      clear hA
      have c0 := (hG.1.2.2.2.1).cell (k := 1) (by simp)
      have e0 : at0 [prodR xs ys 3 / 18446744073709551616, prodR xs ys 3 % 18446744073709551616] 1 = prodR xs ys 3 % 18446744073709551616 := rfl
      rw [e0] at c0
      refine Does.pure rfl (.int .u64 (prodR xs ys 3 % 18446744073709551616)) ?_ ⟨Below.refl _ _, rfl⟩
      go_simp
    refine StepL.other (k := 21) rfl (fun b f W hb hG hH => ?_) ?_
    · -- 21
      obtain rfl := hb rfl
      obtain ⟨d20, -⟩ : (f 20 = .int .u64 (prodR xs ys 3 % 18446744073709551616)) ∧ True := hH
      generalize hA : putL _ _ _ _ = A
      have q152 : A.eval (.tmp 152) = .int .u64 (prodR xs ys 3 % 18446744073709551616) := by rw [← hA]; exact putL_look rfl hAsz rfl d20
      have r152 : A.tmps[152]?.getD undef = .int .u64 (prodR xs ys 3 % 18446744073709551616) := slot_get q152
      clear hA
      have e0 := mk3.out
      refine Does.pure rfl (.int .u64 (prodR xs ys 3 % 2251799813685248)) ?_ ⟨Below.refl _ _, rfl⟩
      go_simp
    refine StepL.other (k := 22) rfl (fun b f W hb hG hH => ?_) ?_
    · -- 22
      obtain rfl := hb rfl
      clear hH
      generalize hA : putL _ _ _ _ = A
      have q21 : A.eval (.tmp 21) = .pointer (some ⟨B2, 0, none⟩) := by rw [← hA]; exact putL_none rfl hAsz rfl hI21
      have r21 : A.tmps[21]?.getD undef = .pointer (some ⟨B2, 0, none⟩) := slot_get q21
      clear hA
      exact Does.loadS rfl 57 _ rfl 2 _ Tryd.underlying57 info_wide B2 q21 .u64 [prodR xs ys 2 / 18446744073709551616, prodR xs ys 2 % 18446744073709551616] (hG.1.2.2.1) rfl ⟨Below.refl _ _, rfl⟩
    refine StepL.other (k := 23) rfl (fun b f W hb hG hH => ?_) ?_
    · -- 23
      obtain rfl := hb rfl
      obtain ⟨d22, d17, -⟩ : (f 22 = aggI .u64 [prodR xs ys 2 / 18446744073709551616, prodR xs ys 2 % 18446744073709551616]) ∧ (f 17 = .int .u64 (prodR xs ys 1 / 2251799813685248)) ∧ True := hH
      generalize hA : putL _ _ _ _ = A
      have q154 : A.eval (.tmp 154) = aggI .u64 [prodR xs ys 2 / 18446744073709551616, prodR xs ys 2 % 18446744073709551616] := by rw [← hA]; exact putL_look rfl hAsz rfl d22
      have r154 : A.tmps[154]?.getD undef = aggI .u64 [prodR xs ys 2 / 18446744073709551616, prodR xs ys 2 % 18446744073709551616] := slot_get q154
      clear hA
      have HS : Calls Tryd.prog 51 #[aggI .u64 [prodR xs ys 2 / 18446744073709551616, prodR xs ys 2 % 18446744073709551616]] W fun e w' => e = .returned (.int .u64 (prodR xs ys 2 / 2251799813685248)) ∧ Below W.heap.size W w' := shifted_any (prodR xs ys 2) W (pr2).1 (by have := (pr2).2; omega)
      refine Does.call rfl _ _ (by go_simp) ((HS).mono ?_)
      rintro e w' ⟨rfl, hb'⟩
      exact ⟨_, rfl, hb', rfl⟩
    refine StepL.other (k := 24) rfl (fun b f W hb hG hH => ?_) ?_
    · -- 24
      obtain rfl := hb rfl
      obtain ⟨d21, d23, -⟩ : (f 21 = .int .u64 (prodR xs ys 3 % 2251799813685248)) ∧ (f 23 = .int .u64 (prodR xs ys 2 / 2251799813685248)) ∧ True := hH
      generalize hA : putL _ _ _ _ = A
      have q153 : A.eval (.tmp 153) = .int .u64 (prodR xs ys 3 % 2251799813685248) := by rw [← hA]; exact putL_look rfl hAsz rfl d21
      have r153 : A.tmps[153]?.getD undef = .int .u64 (prodR xs ys 3 % 2251799813685248) := slot_get q153
      have q155 : A.eval (.tmp 155) = .int .u64 (prodR xs ys 2 / 2251799813685248) := by rw [← hA]; exact putL_look rfl hAsz rfl d23
      have r155 : A.tmps[155]?.getD undef = .int .u64 (prodR xs ys 2 / 2251799813685248) := slot_get q155
      clear hA
      have e0 := ws3.out
      refine Does.pure rfl (.int .u64 (prodR xs ys 3 % 2251799813685248 + prodR xs ys 2 / 2251799813685248)) ?_ ⟨Below.refl _ _, rfl⟩
      go_simp
    refine StepL.other (k := 25) rfl (fun b f W hb hG hH => ?_) ?_
    · -- 25
      obtain rfl := hb rfl
      clear hH
      generalize hA : putL _ _ _ _ = A
      have q23 : A.eval (.tmp 23) = .pointer (some ⟨B4, 0, none⟩) := by rw [← hA]; exact putL_none rfl hAsz rfl hI23
      have r23 : A.tmps[23]?.getD undef = .pointer (some ⟨B4, 0, none⟩) := slot_get q23
      clear hA
      refine Does.pure rfl (.pointer (some ⟨B4, 1, none⟩)) ?_ ⟨Below.refl _ _, rfl⟩
      go_simp
    refine StepL.other (k := 26) rfl (fun b f W hb hG hH => ?_) ?_
    · -- 26
      obtain rfl := hb rfl
      obtain ⟨d25, -⟩ : (f 25 = .pointer (some ⟨B4, 1, none⟩)) ∧ True := hH
      generalize hA : putL _ _ _ _ = A
      have q157 : A.eval (.tmp 157) = .pointer (some ⟨B4, 1, none⟩) := by rw [← hA]; exact putL_look rfl hAsz rfl d25
      have r157 : A.tmps[157]?.getD undef = .pointer (some ⟨B4, 1, none⟩) := slot_get q157
      clear hA
      have c0 := (hG.1.2.2.2.2).cell (k := 1) (by simp)
      have e0 : at0 [prodR xs ys 4 / 18446744073709551616, prodR xs ys 4 % 18446744073709551616] 1 = prodR xs ys 4 % 18446744073709551616 := rfl
      rw [e0] at c0
      refine Does.pure rfl (.int .u64 (prodR xs ys 4 % 18446744073709551616)) ?_ ⟨Below.refl _ _, rfl⟩
      go_simp
    refine StepL.other (k := 27) rfl (fun b f W hb hG hH => ?_) ?_
    · -- 27
      obtain rfl := hb rfl
      obtain ⟨d26, -⟩ : (f 26 = .int .u64 (prodR xs ys 4 % 18446744073709551616)) ∧ True := hH
      generalize hA : putL _ _ _ _ = A
      have q158 : A.eval (.tmp 158) = .int .u64 (prodR xs ys 4 % 18446744073709551616) := by rw [← hA]; exact putL_look rfl hAsz rfl d26
      have r158 : A.tmps[158]?.getD undef = .int .u64 (prodR xs ys 4 % 18446744073709551616) := slot_get q158
      clear hA
      have e0 := mk4.out
      refine Does.pure rfl (.int .u64 (prodR xs ys 4 % 2251799813685248)) ?_ ⟨Below.refl _ _, rfl⟩
      go_simp
    refine StepL.other (k := 28) rfl (fun b f W hb hG hH => ?_) ?_
    · -- 28
      obtain rfl := hb rfl
      clear hH
      generalize hA : putL _ _ _ _ = A
      have q22 : A.eval (.tmp 22) = .pointer (some ⟨B3, 0, none⟩) := by rw [← hA]; exact putL_none rfl hAsz rfl hI22
      have r22 : A.tmps[22]?.getD undef = .pointer (some ⟨B3, 0, none⟩) := slot_get q22
      clear hA
      exact Does.loadS rfl 57 _ rfl 2 _ Tryd.underlying57 info_wide B3 q22 .u64 [prodR xs ys 3 / 18446744073709551616, prodR xs ys 3 % 18446744073709551616] (hG.1.2.2.2.1) rfl ⟨Below.refl _ _, rfl⟩
    refine StepL.other (k := 29) rfl (fun b f W hb hG hH => ?_) ?_
    · -- 29
      obtain rfl := hb rfl
      obtain ⟨d28, d23, -⟩ : (f 28 = aggI .u64 [prodR xs ys 3 / 18446744073709551616, prodR xs ys 3 % 18446744073709551616]) ∧ (f 23 = .int .u64 (prodR xs ys 2 / 2251799813685248)) ∧ True := hH
      generalize hA : putL _ _ _ _ = A
      have q160 : A.eval (.tmp 160) = aggI .u64 [prodR xs ys 3 / 18446744073709551616, prodR xs ys 3 % 18446744073709551616] := by rw [← hA]; exact putL_look rfl hAsz rfl d28
      have r160 : A.tmps[160]?.getD undef = aggI .u64 [prodR xs ys 3 / 18446744073709551616, prodR xs ys 3 % 18446744073709551616] := slot_get q160
      clear hA
      have HS : Calls Tryd.prog 51 #[aggI .u64 [prodR xs ys 3 / 18446744073709551616, prodR xs ys 3 % 18446744073709551616]] W fun e w' => e = .returned (.int .u64 (prodR xs ys 3 / 2251799813685248)) ∧ Below W.heap.size W w' := shifted_any (prodR xs ys 3) W (pr3).1 (by have := (pr3).2; omega)
      refine Does.call rfl _ _ (by go_simp) ((HS).mono ?_)
      rintro e w' ⟨rfl, hb'⟩
      exact ⟨_, rfl, hb', rfl⟩
    refine StepL.other (k := 30) rfl (fun b f W hb hG hH => ?_) ?_
    · -- 30
      obtain rfl := hb rfl
      obtain ⟨d27, d29, -⟩ : (f 27 = .int .u64 (prodR xs ys 4 % 2251799813685248)) ∧ (f 29 = .int .u64 (prodR xs ys 3 / 2251799813685248)) ∧ True := hH
      generalize hA : putL _ _ _ _ = A
      have q159 : A.eval (.tmp 159) = .int .u64 (prodR xs ys 4 % 2251799813685248) := by rw [← hA]; exact putL_look rfl hAsz rfl d27
      have r159 : A.tmps[159]?.getD undef = .int .u64 (prodR xs ys 4 % 2251799813685248) := slot_get q159
      have q161 : A.eval (.tmp 161) = .int .u64 (prodR xs ys 3 / 2251799813685248) := by rw [← hA]; exact putL_look rfl hAsz rfl d29
      have r161 : A.tmps[161]?.getD undef = .int .u64 (prodR xs ys 3 / 2251799813685248) := slot_get q161
      clear hA
      have e0 := ws4.out
      refine Does.pure rfl (.int .u64 (prodR xs ys 4 % 2251799813685248 + prodR xs ys 3 / 2251799813685248)) ?_ ⟨Below.refl _ _, rfl⟩
      go_simp
    refine StepL.other (k := 31) rfl (fun b f W hb hG hH => ?_) ?_
    · -- 31
      obtain rfl := hb rfl
      obtain ⟨d6, d12, d18, d24, d30, -⟩ : (f 6 = .int .u64 (prodR xs ys 0 % 2251799813685248 + prodR xs ys 4 / 2251799813685248 * 19)) ∧ (f 12 = .int .u64 (prodR xs ys 1 % 2251799813685248 + prodR xs ys 0 / 2251799813685248)) ∧ (f 18 = .int .u64 (prodR xs ys 2 % 2251799813685248 + prodR xs ys 1 / 2251799813685248)) ∧ (f 24 = .int .u64 (prodR xs ys 3 % 2251799813685248 + prodR xs ys 2 / 2251799813685248)) ∧ (f 30 = .int .u64 (prodR xs ys 4 % 2251799813685248 + prodR xs ys 3 / 2251799813685248)) ∧ True := hH
      generalize hA : putL _ _ _ _ = A
      have q138 : A.eval (.tmp 138) = .int .u64 (prodR xs ys 0 % 2251799813685248 + prodR xs ys 4 / 2251799813685248 * 19) := by rw [← hA]; exact putL_look rfl hAsz rfl d6
      have r138 : A.tmps[138]?.getD undef = .int .u64 (prodR xs ys 0 % 2251799813685248 + prodR xs ys 4 / 2251799813685248 * 19) := slot_get q138
      have q144 : A.eval (.tmp 144) = .int .u64 (prodR xs ys 1 % 2251799813685248 + prodR xs ys 0 / 2251799813685248) := by rw [← hA]; exact putL_look rfl hAsz rfl d12
      have r144 : A.tmps[144]?.getD undef = .int .u64 (prodR xs ys 1 % 2251799813685248 + prodR xs ys 0 / 2251799813685248) := slot_get q144
      have q150 : A.eval (.tmp 150) = .int .u64 (prodR xs ys 2 % 2251799813685248 + prodR xs ys 1 / 2251799813685248) := by rw [← hA]; exact putL_look rfl hAsz rfl d18
      have r150 : A.tmps[150]?.getD undef = .int .u64 (prodR xs ys 2 % 2251799813685248 + prodR xs ys 1 / 2251799813685248) := slot_get q150
      have q156 : A.eval (.tmp 156) = .int .u64 (prodR xs ys 3 % 2251799813685248 + prodR xs ys 2 / 2251799813685248) := by rw [← hA]; exact putL_look rfl hAsz rfl d24
      have r156 : A.tmps[156]?.getD undef = .int .u64 (prodR xs ys 3 % 2251799813685248 + prodR xs ys 2 / 2251799813685248) := slot_get q156
      have q162 : A.eval (.tmp 162) = .int .u64 (prodR xs ys 4 % 2251799813685248 + prodR xs ys 3 / 2251799813685248) := by rw [← hA]; exact putL_look rfl hAsz rfl d30
      have r162 : A.tmps[162]?.getD undef = .int .u64 (prodR xs ys 4 % 2251799813685248 + prodR xs ys 3 / 2251799813685248) := slot_get q162
      clear hA
      exact Does.buildI rfl 38 _ rfl .u64 (timesL xs ys) _ (built_limbs _ _ _ _ _) (by simp only [List.map_cons, List.map_nil, q138, q144, q150, q156, q162]) ⟨Below.refl _ _, rfl⟩
    refine StepL.other (k := 32) rfl (fun b f W hb hG hH => ?_) ?_
    · -- 32
      obtain rfl := hb rfl
      obtain ⟨d31, d29, -⟩ : (f 31 = aggI .u64 (timesL xs ys)) ∧ (f 29 = .int .u64 (prodR xs ys 3 / 2251799813685248)) ∧ True := hH
      generalize hA : putL _ _ _ _ = A
      have q163 : A.eval (.tmp 163) = aggI .u64 (timesL xs ys) := by rw [← hA]; exact putL_look rfl hAsz rfl d31
      have r163 : A.tmps[163]?.getD undef = aggI .u64 (timesL xs ys) := slot_get q163
      clear hA
      refine Does.call rfl _ _ (by go_simp) ((carried_any (timesL xs ys) W (timesL_words hx hy) rfl).mono ?_)
      rintro e w' ⟨rfl, hb'⟩
      exact ⟨_, rfl, hb', rfl⟩
    refine StepL.self (k := 33) rfl (fun f W hG hH => ?_) ?_
    · -- 33
      obtain ⟨d32, -, d0, d1, d2, d3, d4, d5, d6, d7, d8, d9, d10, d11, d12, d13, d14, d15, d16, d17, d18, d19, d20, d21, d22, d23, d24, d25, d26, d27, d28, d29, d30, d31, -, -⟩ : (f 32 = aggI .u64 (carriedS (timesL xs ys))) ∧ (f 32 = aggI .u64 (carriedS (timesL xs ys))) ∧ (f 0 = .pointer (some ⟨B0, 1, none⟩)) ∧ (f 1 = .int .u64 (prodR xs ys 0 % 18446744073709551616)) ∧ (f 2 = .int .u64 (prodR xs ys 0 % 2251799813685248)) ∧ (f 3 = aggI .u64 [prodR xs ys 4 / 18446744073709551616, prodR xs ys 4 % 18446744073709551616]) ∧ (f 4 = .int .u64 (prodR xs ys 4 / 2251799813685248)) ∧ (f 5 = .int .u64 (prodR xs ys 4 / 2251799813685248 * 19)) ∧ (f 6 = .int .u64 (prodR xs ys 0 % 2251799813685248 + prodR xs ys 4 / 2251799813685248 * 19)) ∧ (f 7 = .pointer (some ⟨B1, 1, none⟩)) ∧ (f 8 = .int .u64 (prodR xs ys 1 % 18446744073709551616)) ∧ (f 9 = .int .u64 (prodR xs ys 1 % 2251799813685248)) ∧ (f 10 = aggI .u64 [prodR xs ys 0 / 18446744073709551616, prodR xs ys 0 % 18446744073709551616]) ∧ (f 11 = .int .u64 (prodR xs ys 0 / 2251799813685248)) ∧ (f 12 = .int .u64 (prodR xs ys 1 % 2251799813685248 + prodR xs ys 0 / 2251799813685248)) ∧ (f 13 = .pointer (some ⟨B2, 1, none⟩)) ∧ (f 14 = .int .u64 (prodR xs ys 2 % 18446744073709551616)) ∧ (f 15 = .int .u64 (prodR xs ys 2 % 2251799813685248)) ∧ (f 16 = aggI .u64 [prodR xs ys 1 / 18446744073709551616, prodR xs ys 1 % 18446744073709551616]) ∧ (f 17 = .int .u64 (prodR xs ys 1 / 2251799813685248)) ∧ (f 18 = .int .u64 (prodR xs ys 2 % 2251799813685248 + prodR xs ys 1 / 2251799813685248)) ∧ (f 19 = .pointer (some ⟨B3, 1, none⟩)) ∧ (f 20 = .int .u64 (prodR xs ys 3 % 18446744073709551616)) ∧ (f 21 = .int .u64 (prodR xs ys 3 % 2251799813685248)) ∧ (f 22 = aggI .u64 [prodR xs ys 2 / 18446744073709551616, prodR xs ys 2 % 18446744073709551616]) ∧ (f 23 = .int .u64 (prodR xs ys 2 / 2251799813685248)) ∧ (f 24 = .int .u64 (prodR xs ys 3 % 2251799813685248 + prodR xs ys 2 / 2251799813685248)) ∧ (f 25 = .pointer (some ⟨B4, 1, none⟩)) ∧ (f 26 = .int .u64 (prodR xs ys 4 % 18446744073709551616)) ∧ (f 27 = .int .u64 (prodR xs ys 4 % 2251799813685248)) ∧ (f 28 = aggI .u64 [prodR xs ys 3 / 18446744073709551616, prodR xs ys 3 % 18446744073709551616]) ∧ (f 29 = .int .u64 (prodR xs ys 3 / 2251799813685248)) ∧ (f 30 = .int .u64 (prodR xs ys 4 % 2251799813685248 + prodR xs ys 3 / 2251799813685248)) ∧ (f 31 = aggI .u64 (timesL xs ys)) ∧ (f 32 = aggI .u64 (carriedS (timesL xs ys))) ∧ True := hH
      generalize hA : putL _ _ _ _ = A
      have q4 : A.eval (.tmp 4) = .pointer (some ⟨w2.heap.size, 0, none⟩) := by rw [← hA]; exact putL_none rfl hAsz rfl hI4
      have r4 : A.tmps[4]?.getD undef = .pointer (some ⟨w2.heap.size, 0, none⟩) := slot_get q4
      have q164 : A.eval (.tmp 164) = aggI .u64 (carriedS (timesL xs ys)) := by rw [← hA]; exact putL_look rfl hAsz rfl d32
      have r164 : A.tmps[164]?.getD undef = aggI .u64 (carriedS (timesL xs ys)) := slot_get q164
      clear hA
      refine Does.storeI rfl 38 _ _ rfl 5 info_limbs w2.heap.size q4 .u64 (List.replicate 5 0) _ q164 hG.2.1 rfl rfl ?_
      intro A9
      exact ⟨⟨_, rfl⟩, ⟨⟨hG.1.1.rowOther (by omega) _, hG.1.2.1.rowOther (by omega) _, hG.1.2.2.1.rowOther (by omega) _, hG.1.2.2.2.1.rowOther (by omega) _, hG.1.2.2.2.2.rowOther (by omega) _⟩, A9, Below.setRow hG.2.2 (by omega) _⟩, rfl⟩
    exact trivial
  ·
    intro f W hG hH
    obtain ⟨d0, d1, d2, d3, d4, d5, d6, d7, d8, d9, d10, d11, d12, d13, d14, d15, d16, d17, d18, d19, d20, d21, d22, d23, d24, d25, d26, d27, d28, d29, d30, d31, d32, d33, -⟩ : (f 0 = .pointer (some ⟨B0, 1, none⟩)) ∧ (f 1 = .int .u64 (prodR xs ys 0 % 18446744073709551616)) ∧ (f 2 = .int .u64 (prodR xs ys 0 % 2251799813685248)) ∧ (f 3 = aggI .u64 [prodR xs ys 4 / 18446744073709551616, prodR xs ys 4 % 18446744073709551616]) ∧ (f 4 = .int .u64 (prodR xs ys 4 / 2251799813685248)) ∧ (f 5 = .int .u64 (prodR xs ys 4 / 2251799813685248 * 19)) ∧ (f 6 = .int .u64 (prodR xs ys 0 % 2251799813685248 + prodR xs ys 4 / 2251799813685248 * 19)) ∧ (f 7 = .pointer (some ⟨B1, 1, none⟩)) ∧ (f 8 = .int .u64 (prodR xs ys 1 % 18446744073709551616)) ∧ (f 9 = .int .u64 (prodR xs ys 1 % 2251799813685248)) ∧ (f 10 = aggI .u64 [prodR xs ys 0 / 18446744073709551616, prodR xs ys 0 % 18446744073709551616]) ∧ (f 11 = .int .u64 (prodR xs ys 0 / 2251799813685248)) ∧ (f 12 = .int .u64 (prodR xs ys 1 % 2251799813685248 + prodR xs ys 0 / 2251799813685248)) ∧ (f 13 = .pointer (some ⟨B2, 1, none⟩)) ∧ (f 14 = .int .u64 (prodR xs ys 2 % 18446744073709551616)) ∧ (f 15 = .int .u64 (prodR xs ys 2 % 2251799813685248)) ∧ (f 16 = aggI .u64 [prodR xs ys 1 / 18446744073709551616, prodR xs ys 1 % 18446744073709551616]) ∧ (f 17 = .int .u64 (prodR xs ys 1 / 2251799813685248)) ∧ (f 18 = .int .u64 (prodR xs ys 2 % 2251799813685248 + prodR xs ys 1 / 2251799813685248)) ∧ (f 19 = .pointer (some ⟨B3, 1, none⟩)) ∧ (f 20 = .int .u64 (prodR xs ys 3 % 18446744073709551616)) ∧ (f 21 = .int .u64 (prodR xs ys 3 % 2251799813685248)) ∧ (f 22 = aggI .u64 [prodR xs ys 2 / 18446744073709551616, prodR xs ys 2 % 18446744073709551616]) ∧ (f 23 = .int .u64 (prodR xs ys 2 / 2251799813685248)) ∧ (f 24 = .int .u64 (prodR xs ys 3 % 2251799813685248 + prodR xs ys 2 / 2251799813685248)) ∧ (f 25 = .pointer (some ⟨B4, 1, none⟩)) ∧ (f 26 = .int .u64 (prodR xs ys 4 % 18446744073709551616)) ∧ (f 27 = .int .u64 (prodR xs ys 4 % 2251799813685248)) ∧ (f 28 = aggI .u64 [prodR xs ys 3 / 18446744073709551616, prodR xs ys 3 % 18446744073709551616]) ∧ (f 29 = .int .u64 (prodR xs ys 3 / 2251799813685248)) ∧ (f 30 = .int .u64 (prodR xs ys 4 % 2251799813685248 + prodR xs ys 3 / 2251799813685248)) ∧ (f 31 = aggI .u64 (timesL xs ys)) ∧ (f 32 = aggI .u64 (carriedS (timesL xs ys))) ∧ (f 33 = undef) ∧ True := hH
    rw [show List.range (List.length [[], [0], [1], [], [3], [4], [2, 5], [], [7], [8], [], [10, 4], [9, 11], [], [13], [14], [], [16, 11], [15, 17], [], [19], [20], [], [22, 17], [21, 23], [], [25], [26], [], [28, 23], [27, 29], [6, 12, 18, 24, 30], [31, 29], [32, 32, 0, 1, 2, 3, 4, 5, 6, 7, 8, 9, 10, 11, 12, 13, 14, 15, 16, 17, 18, 19, 20, 21, 22, 23, 24, 25, 26, 27, 28, 29, 30, 31, 32]]) = [0, 1, 2, 3, 4, 5, 6, 7, 8, 9, 10, 11, 12, 13, 14, 15, 16, 17, 18, 19, 20, 21, 22, 23, 24, 25, 26, 27, 28, 29, 30, 31, 32, 33] from rfl]
    clear d0 d1 d2 d3 d4 d5 d6 d7 d8 d9 d10 d11 d12 d13 d14 d15 d16 d17 d18 d19 d20 d21 d22 d23 d24 d25 d26 d27 d28 d29 d30 d31 d32 d33
    obtain ⟨-, A9, hbel⟩ := hG
    have A9 : Arr .u64 W w2.heap.size (carriedS (timesL xs ys)) := A9
    have h4 := putL_none (f := f) (ds := [some 132, some 133, some 134, some 135, some 136, some 137, some 138, some 139, some 140, some 141, some 142, some 143, some 144, some 145, some 146, some 147, some 148, some 149, some 150, some 151, some 152, some 153, some 154, some 155, some 156, some 157, some 158, some 159, some 160, some 161, some 162, some 163, some 164, none]) (l := [0, 1, 2, 3, 4, 5, 6, 7, 8, 9, 10, 11, 12, 13, 14, 15, 16, 17, 18, 19, 20, 21, 22, 23, 24, 25, 26, 27, 28, 29, 30, 31, 32, 33]) (a := a0) (t := 4) rfl hAsz rfl hI4
    have hde : (putL [some 132, some 133, some 134, some 135, some 136, some 137, some 138, some 139, some 140, some 141, some 142, some 143, some 144, some 145, some 146, some 147, some 148, some 149, some 150, some 151, some 152, some 153, some 154, some 155, some 156, some 157, some 158, some 159, some 160, some 161, some 162, some 163, some 164, none] f [0, 1, 2, 3, 4, 5, 6, 7, 8, 9, 10, 11, 12, 13, 14, 15, 16, 17, 18, 19, 20, 21, 22, 23, 24, 25, 26, 27, 28, 29, 30, 31, 32, 33] a0).defers = [] := by rw [putL_defers]; exact hAdef
    generalize putL _ f _ a0 = aZ at *
    go_wp2
    refine bodyPost_ret (results_cellI rfl _ 5 33 und_limbs info_limbs (w2.heap.size) h4 .u64 _ A9 rfl) hde ?_
    exact ⟨rfl, hbel⟩
end Go.Proofs.YtlhloldjlfcchaaDoor

/- Merged: Nothing; the reference's sum of points, walked. What nothing and the reference's sum of points are. The reference's Many: so many times a point. A point 0 to 15 times. Sums of several points' multiples, four bits at once. -/
import Derived.Test.YtelppapkffjmpaaDoorQMI
import Derived.Test.YtelppapkffjmpaaDoorQMF
import Derived.Test.YtelppapkffjmpaaDoorQMA
section
namespace Go.Proofs.YtelppapkffjmpaaDoor
open Go.RowKit Go.Shelf
set_option linter.unusedVariables false
set_option maxRecDepth 8000

set_option maxHeartbeats 2000000 in
theorem nothing_walk (cr0 bu0 cr1 : List Int) (w : World) (l_cr0 : cr0.length = 5) (l_bu0 : bu0.length = 10) (l_cr1 : cr1.length = 20)
    (hbu0 : Tryd.prog.built 44 [(1, aggI .u64 cr0)] = some (bu0.map (Value.int .u64)).toArray)
    (H0 : ∀ W, Ret 63 #[.int .u32 1] (aggI .u64 cr0) W)
    (H1 : ∀ W, Ret 34 #[aggI .u64 bu0] (aggI .u64 cr1) W) :
    Calls Tryd.prog 72 #[] w fun e w' => e = .returned (aggI .u64 cr1) ∧ Below w.heap.size w w' := by
  go_enter Tryd.func72, Tryd.ntmps72
  go_wp2_with (first
      | (with_reducible refine at_n 0 ?_; refine wpList_allocI rfl 46 rfl .u64 20 zero_point ?_; intro w1 A0 s1 b1; have BB := b1; have y1 := BB.size)
      | (with_reducible refine at_n 2 ?_; go_loud (refine wpList_val' (fun R hR => Does.buildI rfl 44 _ rfl .u64 (bu0) _ (hbu0) rfl hR) ?_))
      | (with_reducible refine at_op (o := ⟨_, .store 46 (.tmp 0) _, _, _, _, _⟩) ?_; refine wpList_storeI rfl 46 _ _ rfl 20 info_point (w.heap.size) rfl .u64 _ (cr1) rfl (A0) (rfl) (l_cr1) ?_; intro D4; replace BB := Below.setRow BB (g := w.heap.size) (by omega) ((cr1).map (Value.int .u64)).toArray; clear A0; have A0 := D4)
      | (go_at_call 63; first | ((with_reducible refine (H0 _).mono ?_); rintro e w2 ⟨rfl, b2⟩; replace A0 := A0.below b2; replace BB := below_then BB b2; have z2 := BB.size))
      | (go_at_call 34; first | ((with_reducible refine (H1 _).mono ?_); rintro e w3 ⟨rfl, b3⟩; replace A0 := A0.below b3; replace BB := below_then BB b3; have z3 := BB.size)))
  refine bodyPost_ret (results_cellM rfl _ 20 _ Tryd.underlying46 rfl info_point (w.heap.size) rfl .u64 _ A0 (l_cr1)) rfl ?_
  exact ⟨rfl, BB⟩
end Go.Proofs.YtelppapkffjmpaaDoor
end
section
namespace Go.Proofs.YtelppapkffjmpaaDoor
open Go.RowKit Go.Shelf
set_option linter.unusedVariables false
set_option maxRecDepth 8000

theorem LF.zero : LF [0, 0, 0, 0, 0] 0 := ⟨by rw [show (((0 : FF).val : Nat) : Int) = 0 by decide +kernel]; exact zero_fel⟩
/-- The words of a number modulo p. -/
structure NF (xs : List Int) (a : FF) : Prop where
  num : xs = numW 4 (a.val : Int)
theorem NF.len {xs : List Int} {a : FF} (h : NF xs a) : xs.length = 4 := by rw [h.num]; exact numW_length _ _
theorem val_lt (a : FF) : 0 ≤ (a.val : Int) ∧ (a.val : Int) < pV := by
  have := a.isLt
  rw [pV_nat]; omega
theorem val_lt2 (a : FF) : 0 ≤ (a.val : Int) ∧ (a.val : Int) < 2 ^ 256 := by
  have h := val_lt a
  have := pV_lt
  omega
/-- The reference's point: x and y over one divisor. -/
structure PnL (ps : List Int) (X Y Z : FF) : Prop where
  len : ps.length = 12
  x : NF (sl ps 0 4) X
  y : NF (sl ps 4 4) Y
  z : NF (sl ps 8 4) Z
theorem PnL.mk3 {xs ys zs : List Int} {X Y Z : FF} (hx : NF xs X) (hy : NF ys Y) (hz : NF zs Z) : PnL (xs ++ (ys ++ zs)) X Y Z := by
  refine ⟨by simp [hx.len, hy.len, hz.len], ?_, ?_, ?_⟩
  · rw [sl_app0 hx.len]; exact hx
  · rw [show sl (xs ++ (ys ++ zs)) 4 4 = ys from (sl_appn (o := 0) hx.len).trans (sl_app0 hy.len)]; exact hy
  · rw [show sl (xs ++ (ys ++ zs)) 8 4 = zs from (sl_appn (o := 4) hx.len).trans ((sl_appn (o := 0) hy.len).trans (sl_all hz.len))]; exact hz
theorem four {xs : List Int} (h : xs.length = 4) : ∃ a b c d, xs = [a, b, c, d] := by
  match xs, h with
  | [a, b, c, d], _ => exact ⟨a, b, c, d, rfl⟩
/-- The base point's numbers. -/
def bxF : FF := 15112221349535400772501151409588531511454012693041857206046113283949847762202
def byF : FF := 46316835694926478169428394003475163141307993866256225615783033603165251855960
def bP : Pt := ⟨bxF, byF, by unfold On; decide +kernel⟩
/-- These are a point's numbers, times some divisor, in the reference. -/
def RepN (ps : List Int) (P : Pt) : Prop := ∃ Z : FF, Z ≠ 0 ∧ PnL ps (P.x * Z) (P.y * Z) Z
theorem RepN.len {ps : List Int} {P : Pt} (h : RepN ps P) : ps.length = 12 := by obtain ⟨Z, -, h⟩ := h; exact h.len
theorem RepN.of {ps : List Int} {P : Pt} {X Y Z : FF} (h : PnL ps X Y Z) (hz : Z ≠ 0) (hx : X = P.x * Z) (hy : Y = P.y * Z) : RepN ps P := ⟨Z, hz, by rw [← hx, ← hy]; exact h⟩
theorem nothing_c  : ∃ rs, PoL rs 0 1 1 (0 * 1) ∧ ∀ w, Calls Tryd.prog 72 #[] w fun e w' => e = .returned (aggI .u64 rs) ∧ Below w.heap.size w w' := by
  obtain ⟨l0, p0, c0⟩ := raised_c (PlL.mk2 LF.zero LF.one)
  exact ⟨_, p0, fun w => nothing_walk _ _ _ w (LF.one).len ((PlL.mk2 LF.zero LF.one)).len (p0).len (built_plane1 LF.one.len) (small_any) (c0)⟩
theorem nothing_r : ∃ rs, RepP rs pzero ∧ ∀ w, Calls Tryd.prog 72 #[] w fun e w' => e = .returned (aggI .u64 rs) ∧ Below w.heap.size w w' := by
  obtain ⟨rs, hr, hc⟩ := nothing_c
  exact ⟨rs, RepP.of hr (by decide +kernel) (by decide +kernel) (by decide +kernel) (by decide +kernel), hc⟩
end Go.Proofs.YtelppapkffjmpaaDoor
end
section
namespace Go.Proofs.YtelppapkffjmpaaDoor
open Go.RowKit Go.Shelf
set_option linter.unusedVariables false
set_option maxRecDepth 8000

/-- What can be gone on with at each step can be gone on with without end. -/
theorem chain {α : Type} {Q : Nat → α → Prop} {S : Nat → α → α → Prop} (x0 : α) (h0 : Q 0 x0) (h : ∀ m x, Q m x → ∃ y, Q (m + 1) y ∧ S m x y) : ∃ f : Nat → α, f 0 = x0 ∧ ∀ m, Q m (f m) ∧ S m (f m) (f (m + 1)) := by
  let g : (m : Nat) → { x : α // Q m x } := fun m => Nat.rec ⟨x0, h0⟩ (fun k p => ⟨Classical.choose (h k p.1 p.2), (Classical.choose_spec (h k p.1 p.2)).1⟩) m
  refine ⟨fun m => (g m).1, rfl, fun m => ⟨(g m).2, ?_⟩⟩
  exact (Classical.choose_spec (h m (g m).1 (g m).2)).2
/-- What 32 bytes stand for. -/
def kB (kb : List Int) : Nat := (valB kb 32).toNat
theorem kB_lt {kb : List Int} (h : Bytes kb) : kB kb < 2 ^ 256 := by
  have := valB_32 kb h
  unfold kB
  omega
theorem bitB_kB {kb : List Int} (h : Bytes kb) (j : Nat) (hj : j < 256) : bitB kb j = ((kB kb / 2 ^ j % 2 : Nat) : Int) := by
  have h0 := (valB_32 kb h).1
  rw [bitB_val kb h 32 j (by omega)]
  unfold kB
  rw [Int.natCast_emod, Int.natCast_ediv, Int.natCast_pow, Int.toNat_of_nonneg h0]
  rfl
end Go.Proofs.YtelppapkffjmpaaDoor
end
section
namespace Go.Proofs.YtelppapkffjmpaaDoor
open Go.RowKit Go.Shelf
set_option linter.unusedVariables false
set_option maxRecDepth 8000

theorem wrap_i64_small {x : Int} (h0 : 0 ≤ x) (h1 : x < 9223372036854775808) : IntKind.i64.wrap x = x := by
  simp [IntKind.wrap, IntKind.bits, IntKind.signed]
  omega
theorem twenty {xs : List Int} (h : xs.length = 20) : ∃ a b c d e f g h i j a' b' c' d' e' f' g' h' i' j', xs = [a, b, c, d, e, f, g, h, i, j, a', b', c', d', e', f', g', h', i', j'] := by
  match xs, h with
  | [a, b, c, d, e, f, g, h, i, j, a', b', c', d', e', f', g', h', i', j'], _ => exact ⟨a, b, c, d, e, f, g, h, i, j, a', b', c', d', e', f', g', h', i', j', rfl⟩
set_option maxRecDepth 100000 in
theorem built_table {xs : List Int} (h : xs.length = 20) : Tryd.prog.built 89 [(0, aggI .u64 xs)] = some ((xs ++ List.replicate 300 0).map (Value.int .u64)).toArray := by
  obtain ⟨a, b, c, d, e, f, g, h, i, j, a', b', c', d', e', f', g', h', i', j', rfl⟩ := twenty h
  kernel_rfl
/-- One step: the next one is put behind. -/
def StepM (ps : List Int) (k : Nat) (ts us : List Int) : Prop := k < 15 → ∃ rs, us = pt ts (20 * (k + 1)) rs ∧ rs.length = 20 ∧ ∀ w, TabC w → Calls Tryd.prog 28 #[aggI .u64 (sl ts (20 * k) 20), aggI .u64 ps] w fun e w' => e = .returned (aggI .u64 rs) ∧ Below w.heap.size w w'
/-- These are a point's first multiples. -/
def TabP (ts : List Int) (k : Nat) (P : Pt) : Prop := ts.length = 320 ∧ ∀ j, j ≤ k → RepP (sl ts (20 * j) 20) (smul j P)
theorem multiples_chain {ps : List Int} {P : Pt} (hp : RepP ps P) (t0 : List Int) (h0 : TabP t0 0 P) : ∃ f : Nat → List Int, f 0 = t0 ∧ ∀ k, (k ≤ 15 → TabP (f k) k P) ∧ StepM ps k (f k) (f (k + 1)) := by
  refine chain (Q := fun k x => k ≤ 15 → TabP x k P) t0 (fun _ => h0) (fun k x hx => ?_)
  by_cases hk : k < 15
  · have hq := hx (by omega)
    obtain ⟨rs, hr, cr⟩ := with_r (hq.2 k (Nat.le_refl _)) hp
    have hl := hq.1
    have hrl := hr.len
    refine ⟨pt x (20 * (k + 1)) rs, fun _ => ⟨by rw [pt_length (by omega)]; exact hl, fun j hj => ?_⟩, fun _ => ⟨rs, rfl, hrl, cr⟩⟩
    by_cases hjk : j = k + 1
    · subst hjk
      rw [sl_pt_same (by omega) hrl]
      exact hr
    · rw [sl_pt_before (by omega) (by omega)]
      exact hq.2 j (by omega)
  · exact ⟨x, fun h => absurd h (by omega), fun h => absurd h hk⟩
set_option maxHeartbeats 4000000 in
theorem multiples_walk (ps ns : List Int) (f : Nat → List Int) (w : World) (hT : TabC w) (l_ps : ps.length = 20) (hns : ns.length = 20) (hf0 : f 0 = ns ++ List.replicate 300 0) (hfl : RowKit.Hid (∀ m, m ≤ 15 → (f m).length = 320)) (hst : RowKit.Hid (∀ m, StepM ps m (f m) (f (m + 1))))
  (hz : ∀ w, Calls Tryd.prog 72 #[] w fun e w' => e = .returned (aggI .u64 ns) ∧ Below w.heap.size w w') :
  Calls Tryd.prog 71 #[aggI .u64 ps] w fun e w' => e = .returned (aggI .u64 (f 15)) ∧ Below w.heap.size w w' := by
 obtain ⟨t0, ht0⟩ : ∃ t0, ns ++ List.replicate 300 0 = t0 := ⟨_, rfl⟩
 have hbt := built_table hns
 have htl : t0.length = 320 := by rw [← ht0]; simp [hns]
 rw [ht0] at hbt hf0
 clear ht0
 go_enter Tryd.func71, Tryd.ntmps71
 go_wp2_with (first
  | (with_reducible refine at_n 1 ?_; refine wpList_boxI rfl 46 _ rfl .u64 ps rfl ?_; intro w1 A1 s1 b1)
  | (with_reducible refine at_n 2 ?_; refine wpList_allocI rfl 89 rfl .u64 320 zero_table ?_; intro w2 A2 s2 b2; have X2 := A1.below b2)
  | (go_at_call 72; refine (hz _).mono ?_; rintro e w3 ⟨rfl, b3⟩; have X3 := X2.below b3; have N3 := A2.below b3)
  | (with_reducible refine at_n 6 ?_; go_loud (refine wpList_val' (fun R hR => Does.buildI rfl 89 _ rfl .u64 (t0) _ (hbt) rfl hR) ?_))
  | (with_reducible refine at_n 3 ?_; refine wpList_allocI rfl 89 rfl .u64 320 zero_table ?_; intro w4 A4 s4 b4; have X4 := X3.below b4; have N4 := N3.below b4; have k1 := X3.lt; have k2 := N3.lt; have BB := below_then (below_then (below_then b1 b2) b3) b4; have k3 := b3.size)
  | (with_reducible refine at_op (o := ⟨_, .store 89 (.tmp 3) _, _, _, _, _⟩) ?_; refine wpList_storeI rfl 89 _ _ rfl 320 info_table (w3.heap.size) rfl .u64 _ (t0) rfl (A4) (by simp) (htl) ?_; intro D4; have X5 := X4.rowOther (B' := w3.heap.size) (by omega) ((t0).map (Value.int .u64)).toArray; have N5 := N4.rowOther (B' := w3.heap.size) (by omega) ((t0).map (Value.int .u64)).toArray; have B5 := Below.setRow BB (g := w3.heap.size) (by omega) ((t0).map (Value.int .u64)).toArray))
 clear A4 X4 N4 BB X3 N3 X2 A1 A2 b4 s4 b3
 generalize w3.heap.size = B3 at *
 go_loopw [7] (fun i wr => ∃ (k : Nat), k ≤ 15 ∧ i = .int .i64 k ∧ Arr .u64 wr w.heap.size ps ∧ Arr .u64 wr w1.heap.size (List.replicate 320 0) ∧ Arr .u64 wr B3 (f k) ∧ Below w.heap.size w wr) (fun i _ => 15 - (intOf i).toNat)
 case atStart => exact ⟨0, by omega, rfl, X5, N5, by rw [hf0]; exact D4, B5⟩
 case round =>
  clear X5 N5 D4 B5
  obtain ⟨k, hk, rfl, A1, A2, A3, BB⟩ := hrel
  by_cases hlt : k < 15
  ·
   obtain ⟨rs, hrs, l_rs, hw⟩ := hst.out k hlt
   have l_ts := hfl.out k hk
   generalize hf1 : f k = ts at *
   generalize hf3 : f (k + 1) = us at *
   have HF3 := Lib.hid hf3
   have HRS := Lib.hid hrs
   clear hf1 hf3 hrs
   obtain ⟨xk, hxk⟩ : ∃ x, sl ts (20 * k) 20 = x := ⟨_, rfl⟩
   rw [hxk] at hw
   have HW := fun W (h : TabC W) => hw W h
   clear hw
   have hwr : IntKind.i64.wrap ((k : Int) + 1) = (k : Int) + 1 := wrap_i64_small (by omega) (by omega)
   go_wp2
   have k61_0 := A1.lt
   have k61_1 := A2.lt
   have k61_2 := A3.lt
   refine wp_region_ord [[], [0], [], [2], [3], [], [4, 5], [1, 0, 1, 2, 3, 4, 5, 6], [7, 6, 6, 0, 1, 2, 3, 4, 5, 6]] [some 10, some 11, some 12, some 13, some 14, some 15, some 16, some 17, none] 8 (fun b w' => Arr .u64 w' (w.heap.size) ps ∧ Arr .u64 w' (w1.heap.size) (List.replicate 320 0) ∧ Arr .u64 w' (B3) (if b then (pt ts (20 * (k + 1)) rs) else ts) ∧ Below w.heap.size w w') (fun opn f _ => match opn with | 0 => f 0 = .int .i64 ((k : Int)) | 1 => f 1 = .int .i64 ((k : Int) + 1) | 2 => f 2 = .int .i64 ((k : Int)) | 3 => f 3 = .pointer (some ⟨B3, 20 * k, none⟩) | 4 => f 4 = aggI .u64 xk | 5 => f 5 = aggI .u64 ps | 6 => f 6 = aggI .u64 rs | 7 => f 7 = .pointer (some ⟨B3, 20 * (k + 1), none⟩) | 8 => f 8 = undef | _ => True) (fun _ v v' => ∃ cs, v' = v.setRow (B3) cs) (by kernel_rfl) (by kernel_rfl) (by kernel_rfl) (by kernel_rfl) (fun b v v' hb h => ⟨h.1.below hb, h.2.1.below hb, h.2.2.1.below hb, below_then h.2.2.2 hb⟩) (fun _ _ _ _ _ h => h) (fun _ _ _ _ _ _ _ h => h) ⟨A1.drew, A2.drew, A3.drew, BB.drew⟩ ?_ ?_
   ·
    refine StepL.other (k := 0) rfl (fun b f W hb hG hH => ?_) ?_
    ·
     obtain rfl := hb rfl
     clear hH
     generalize hA : putL _ _ _ _ = A
     have q4 : A.eval (.tmp 4) = .int .i64 ((k : Int)) := putLn hA 4 rfl rfl rfl
     have r4 := slot_get q4
     clear hA
     refine Does.pure rfl (.int .i64 ((k : Int))) ?_ ⟨Below.refl _ _, rfl⟩
     go_simp
    refine StepL.other (k := 1) rfl (fun b f W hb hG hH => ?_) ?_
    ·
     obtain rfl := hb rfl
     obtain ⟨d0, -⟩ := hH
     generalize hA : putL _ _ _ _ = A
     have q10 := putLl hA 10 d0 rfl rfl
     have r10 := slot_get q10
     clear hA
     refine Does.pure rfl (.int .i64 ((k : Int) + 1)) ?_ ⟨Below.refl _ _, rfl⟩
     go_simp
    refine StepL.other (k := 2) rfl (fun b f W hb hG hH => ?_) ?_
    ·
     obtain rfl := hb rfl
     clear hH
     generalize hA : putL _ _ _ _ = A
     have q4 : A.eval (.tmp 4) = .int .i64 ((k : Int)) := putLn hA 4 rfl rfl rfl
     have r4 := slot_get q4
     clear hA
     refine Does.pure rfl (.int .i64 ((k : Int))) ?_ ⟨Below.refl _ _, rfl⟩
     go_simp
    refine StepL.other (k := 3) rfl (fun b f W hb hG hH => ?_) ?_
    ·
     obtain rfl := hb rfl
     obtain ⟨d2, -⟩ := hH
     generalize hA : putL _ _ _ _ = A
     have q3 : A.eval (.tmp 3) = .pointer (some ⟨B3, 0, none⟩) := putLn hA 3 rfl rfl rfl
     have q12 := putLl hA 12 d2 rfl rfl
     clear hA
     exact Does.indexA rfl 89 _ _ rfl (n := 16) (s := 20) Tryd.underlying89 info_point B3 0 q3 .i64 ((k : Int)) q12 (by omega) (by omega) (o1 := 20 * k) (by omega) ⟨Below.refl _ _, rfl⟩
    refine StepL.other (k := 4) rfl (fun b f W hb hG hH => ?_) ?_
    ·
     obtain rfl := hb rfl
     obtain ⟨d3, -⟩ := hH
     generalize hA : putL _ _ _ _ = A
     have q13 := putLl hA 13 d3 rfl rfl
     clear hA
     exact Does.loadM rfl 46 _ rfl 20 _ Tryd.underlying46 rfl info_point (B3) (20 * k) q13 .u64 (ts) (hG.2.2.1) (by omega) (hxk) ⟨Below.refl _ _, rfl⟩
    refine StepL.other (k := 5) rfl (fun b f W hb hG hH => ?_) ?_
    ·
     obtain rfl := hb rfl
     clear hH
     generalize hA : putL _ _ _ _ = A
     have q1 : A.eval (.tmp 1) = .pointer (some ⟨w.heap.size, 0, none⟩) := putLn hA 1 rfl rfl rfl
     clear hA
     exact Does.loadM rfl 46 _ rfl 20 _ Tryd.underlying46 rfl info_point (w.heap.size) (0) q1 .u64 (ps) (hG.1) (by omega) (sl_all l_ps) ⟨Below.refl _ _, rfl⟩
    refine StepL.other (k := 6) rfl (fun b f W hb hG hH => ?_) ?_
    ·
     obtain rfl := hb rfl
     obtain ⟨d4, d5, -⟩ := hH
     generalize hA : putL _ _ _ _ = A
     have q14 := putLl hA 14 d4 rfl rfl
     have r14 := slot_get q14
     have q15 := putLl hA 15 d5 rfl rfl
     have r15 := slot_get q15
     clear hA
     refine Does.call rfl _ _ (by go_simp) ((HW W (hT.below (hG.2.2.2))).mono ?_)
     rintro e w' ⟨rfl, hb'⟩
     exact ⟨_, rfl, hb', rfl⟩
    refine StepL.other (k := 7) rfl (fun b f W hb hG hH => ?_) ?_
    ·
     obtain rfl := hb rfl
     obtain ⟨d1, d0, -, d2, d3, d4, d5, d6, -⟩ := hH
     generalize hA : putL _ _ _ _ = A
     have q3 : A.eval (.tmp 3) = .pointer (some ⟨B3, 0, none⟩) := putLn hA 3 rfl rfl rfl
     have q11 := putLl hA 11 d1 rfl rfl
     clear hA
     exact Does.indexA rfl 89 _ _ rfl (n := 16) (s := 20) Tryd.underlying89 info_point B3 0 q3 .i64 ((k : Int) + 1) q11 (by omega) (by omega) (o1 := 20 * (k + 1)) (by omega) ⟨Below.refl _ _, rfl⟩
    refine StepL.self (k := 8) rfl (fun f W hG hH => ?_) ?_
    ·
     obtain ⟨d7, d6, -, d0, d1, d2, d3, d4, d5, -, -⟩ := hH
     generalize hA : putL _ _ _ _ = A
     have q17 := putLl hA 17 d7 rfl rfl
     have r17 := slot_get q17
     have q16 := putLl hA 16 d6 rfl rfl
     have r16 := slot_get q16
     clear hA
     have hZ : Arr .u64 W (B3) ts := hG.2.2.1
     refine Does.storeM rfl 46 _ _ rfl 20 info_point (B3) (20 * (k + 1)) q17 .u64 _ (rs) q16 hZ (l_rs) (by omega) ?_
     intro A9
     exact ⟨⟨_, rfl⟩, ⟨hG.1.rowOther (by omega) _, hG.2.1.rowOther (by omega) _, A9, Below.setRow hG.2.2.2 (by omega) _⟩, rfl⟩
    exact trivial
   ·
    intro f V61 hG hH
    obtain ⟨d0, d1, d2, d3, d4, d5, d6, d7, d8, -⟩ : (f 0 = .int .i64 ((k : Int))) ∧ (f 1 = .int .i64 ((k : Int) + 1)) ∧ (f 2 = .int .i64 ((k : Int))) ∧ (f 3 = .pointer (some ⟨B3, 20 * k, none⟩)) ∧ (f 4 = aggI .u64 xk) ∧ (f 5 = aggI .u64 ps) ∧ (f 6 = aggI .u64 rs) ∧ (f 7 = .pointer (some ⟨B3, 20 * (k + 1), none⟩)) ∧ (f 8 = undef) ∧ True := hH
    rw [show List.range (List.length [[], [0], [], [2], [3], [], [4, 5], [1, 0, 1, 2, 3, 4, 5, 6], [7, 6, 6, 0, 1, 2, 3, 4, 5, 6]]) = [0, 1, 2, 3, 4, 5, 6, 7, 8] from rfl]
    simp only [putL, List.getElem?_cons_zero, List.getElem?_cons_succ, Option.join, Option.bind_some, id_eq, Act.put, List.setIfInBounds_toArray, List.set_cons_zero, List.set_cons_succ, d0, d1, d2, d3, d4, d5, d6, d7]
    clear d0 d1 d2 d3 d4 d5 d6 d7 d8
    clear A1 A2 A3
    obtain ⟨A1, A2, A3, BV⟩ := hG
    have A3 : Arr .u64 V61 (B3) (pt ts (20 * (k + 1)) rs) := A3
    clear BB
    have BB := BV
    clear BV
    have zz61 := BB.size
    go_wp2
    exact ⟨⟨k + 1, by omega, by go_num, A1, A2, by rw [HF3.out, HRS.out]; exact A3, BB⟩, by simp only [intOf]; omega⟩
  ·
   obtain rfl : k = 15 := by omega
   have hl := hfl.out 15 (by omega)
   obtain ⟨rr, hr⟩ : ∃ rr, f 15 = rr := ⟨_, rfl⟩
   rw [hr] at A3 hl
   have HR := Lib.hid hr
   clear hr hlt
   go_wp2_with (first
  | (with_reducible refine at_n 19 ?_; refine wpList_val' (fun Q hQ => Does.loadM rfl 89 _ rfl 320 _ Tryd.underlying89 rfl info_table (B3) 0 rfl .u64 rr A3 (by omega) (sl_all hl) hQ) ?_)
  | (with_reducible refine at_op (o := ⟨_, .store 89 _ _, _, _, _, _⟩) ?_; refine wpList_storeI rfl 89 _ _ rfl 320 info_table (w1.heap.size) rfl .u64 _ (rr) rfl (A2) (by simp) (hl) ?_; intro A9))
   refine bodyPost_ret (results_cellM rfl _ 320 _ Tryd.underlying89 rfl info_table (w1.heap.size) rfl .u64 _ A9 hl) rfl ?_
   exact ⟨by rw [HR.out], Below.setRow BB (by omega) _⟩
theorem multiples_r {ps : List Int} {P : Pt} (hp : RepP ps P) : ∃ ts, TabP ts 15 P ∧ ∀ w, TabC w → Calls Tryd.prog 71 #[aggI .u64 ps] w fun e w' => e = .returned (aggI .u64 ts) ∧ Below w.heap.size w w' := by
  obtain ⟨ns, hn, cn⟩ := nothing_r
  obtain ⟨f, hf0, hf⟩ := multiples_chain hp (ns ++ List.replicate 300 0) ⟨by simp [hn.len], fun j hj => by
    obtain rfl : j = 0 := by omega
    rw [Nat.mul_zero, sl_app0 hn.len]; exact hn⟩
  exact ⟨f 15, (hf 15).1 (Nat.le_refl _), fun w hT => multiples_walk ps ns f w hT hp.len hn.len hf0 (Lib.hid fun m hm => ((hf m).1 hm).1) (Lib.hid fun m => (hf m).2) cn⟩
end Go.Proofs.YtelppapkffjmpaaDoor
end
section
namespace Go.Proofs.YtelppapkffjmpaaDoor
open Go.RowKit Go.Shelf
set_option linter.unusedVariables false
set_option maxRecDepth 8000

/-- A sum of so many points. -/
def sumP : Nat → (Nat → Pt) → Pt
  | 0, _ => pzero
  | n + 1, F => padd (sumP n F) (F n)
theorem padd_swap (a b c d : Pt) : padd (padd a b) (padd c d) = padd (padd a c) (padd b d) := by
  rw [padd_assoc, ← padd_assoc b, padd_comm b c, padd_assoc c, ← padd_assoc a]
theorem sumP_add (F G : Nat → Pt) : ∀ n, sumP n (fun j => padd (F j) (G j)) = padd (sumP n F) (sumP n G)
  | 0 => (padd_zero pzero).symm
  | n + 1 => by
    show padd (sumP n (fun j => padd (F j) (G j))) (padd (F n) (G n)) = padd (padd (sumP n F) (F n)) (padd (sumP n G) (G n))
    rw [sumP_add F G n, padd_swap]
theorem sumP_congr {F G : Nat → Pt} : ∀ n, (∀ j, j < n → F j = G j) → sumP n F = sumP n G
  | 0, _ => rfl
  | n + 1, h => by
    show padd (sumP n F) (F n) = padd (sumP n G) (G n)
    rw [sumP_congr n (fun j hj => h j (by omega)), h n (by omega)]
theorem dbl4 (A : Pt) : padd (padd (padd (padd A A) (padd A A)) (padd (padd A A) (padd A A))) (padd (padd (padd A A) (padd A A)) (padd (padd A A) (padd A A))) = smul 16 A := by
  have h2 : padd A A = smul 2 A := by rw [show (2 : Nat) = 1 + 1 from rfl, smul_add, smul_one]
  have h4 : padd (smul 2 A) (smul 2 A) = smul 4 A := (smul_add 2 A 2).symm
  have h8 : padd (smul 4 A) (smul 4 A) = smul 8 A := (smul_add 4 A 4).symm
  have h16 : padd (smul 8 A) (smul 8 A) = smul 16 A := (smul_add 8 A 8).symm
  rw [h2, h4, h8, h16]
theorem smul_padd (A B : Pt) : ∀ k, smul k (padd A B) = padd (smul k A) (smul k B)
  | 0 => (padd_zero pzero).symm
  | k + 1 => by
    show padd (smul k (padd A B)) (padd A B) = padd (padd (smul k A) A) (padd (smul k B) B)
    rw [smul_padd A B k, padd_swap]
theorem smul_sumP (k : Nat) (F : Nat → Pt) : ∀ n, smul k (sumP n F) = sumP n (fun j => smul k (F j))
  | 0 => smul_zero k
  | n + 1 => by
    show smul k (padd (sumP n F) (F n)) = padd (sumP n fun j => smul k (F j)) (smul k (F n))
    rw [smul_padd, smul_sumP k F n]
/-- Four bits of a number, the at-th from below. -/
def nib (kb : List Int) (at_ : Nat) : Int := at0 kb (at_ / 2) / 2 ^ (4 * (at_ % 2)) % 16
theorem nib_ok (kb : List Int) (at_ : Nat) : 0 ≤ nib kb at_ ∧ nib kb at_ < 16 := by unfold nib; omega
theorem nib_kB {kb : List Int} (h : Bytes kb) (t : Nat) (ht : t < 64) : nib kb t = ((kB kb / 16 ^ t % 16 : Nat) : Int) := by
  have e16 : (16 : Nat) ^ t = 2 ^ (4 * t) := by rw [show (16 : Nat) = 2 ^ 4 from rfl, ← Nat.pow_mul]
  rw [e16]
  have hb := fun i (hi : i < 4) => bitB_kB h (4 * t + i) (by omega)
  have hd : ∀ i, i < 4 → bitB kb (4 * t + i) = at0 kb (t / 2) / 2 ^ (4 * (t % 2)) / 2 ^ i % 2 := by
    intro i hi
    unfold bitB
    rw [show (4 * t + i) / 8 = t / 2 by omega, show (4 * t + i) % 8 = 4 * (t % 2) + i by omega, Int.pow_add, Int.ediv_ediv_of_nonneg (Int.le_of_lt (pow_pos2 _))]
  have hk : ∀ i, kB kb / 2 ^ (4 * t + i) = kB kb / 2 ^ (4 * t) / 2 ^ i := fun i => by rw [Nat.pow_add, Nat.div_div_eq_div_mul]
  have h0 := hb 0 (by omega); have h1 := hb 1 (by omega); have h2 := hb 2 (by omega); have h3 := hb 3 (by omega)
  rw [hd 0 (by omega), hk] at h0
  rw [hd 1 (by omega), hk] at h1
  rw [hd 2 (by omega), hk] at h2
  rw [hd 3 (by omega), hk] at h3
  unfold nib
  have hx := h.at (t / 2)
  have hn : 0 ≤ at0 kb (t / 2) / 2 ^ (4 * (t % 2)) := Int.ediv_nonneg hx.1 (Int.le_of_lt (pow_pos2 _))
  generalize at0 kb (t / 2) / 2 ^ (4 * (t % 2)) = y at *
  generalize kB kb / 2 ^ (4 * t) = X at *
  simp only [Int.reducePow, Nat.reducePow] at *
  omega
theorem smul_nib {K t : Nat} (P : Pt) : padd (smul 16 (smul (K / 16 ^ (t + 1)) P)) (smul (K / 16 ^ t % 16) P) = smul (K / 16 ^ t) P := by
  rw [← smul_mul, ← smul_add]
  congr 1
  rw [Nat.pow_succ, ← Nat.div_div_eq_div_mul]
  omega
/-- One turn: four times twice as much, then each point's table. -/
def StepT (n : Nat) (tms : List Int) (ts : Nat → List Int) (i : Nat) (x y : List Int) : Prop := i < 64 → ∃ d a : Nat → List Int, d 0 = x ∧ a 0 = d 4 ∧ y = a n ∧ (∀ c, c ≤ 4 → (d c).length = 20) ∧ (∀ j, j ≤ n → (a j).length = 20) ∧
  (∀ c, c < 4 → ∀ w, Calls Tryd.prog 73 #[aggI .u64 (d c)] w fun e w' => e = .returned (aggI .u64 (d (c + 1))) ∧ Below w.heap.size w w') ∧
  (∀ j, j < n → ∀ w, TabC w → Calls Tryd.prog 28 #[aggI .u64 (a j), aggI .u64 (sl (ts j) (20 * (nib (sl tms (32 * j) 32) (63 - i)).toNat) 20)] w fun e w' => e = .returned (aggI .u64 (a (j + 1))) ∧ Below w.heap.size w w')
set_option maxHeartbeats 1000000 in
theorem many_chain {n : Nat} {tms : List Int} {ts : Nat → List Int} {P : Nat → Pt} (ht : ∀ j, j < n → TabP (ts j) 15 (P j)) (hb : ∀ j, j < n → Bytes (sl tms (32 * j) 32)) (x0 : List Int) (h0 : RepP x0 pzero) :
    ∃ f : Nat → List Int, f 0 = x0 ∧ ∀ i, (i ≤ 64 → RepP (f i) (sumP n fun j => smul (kB (sl tms (32 * j) 32) / 16 ^ (64 - i)) (P j))) ∧ StepT n tms ts i (f i) (f (i + 1)) := by
  refine chain (Q := fun i x => i ≤ 64 → RepP x (sumP n fun j => smul (kB (sl tms (32 * j) 32) / 16 ^ (64 - i)) (P j))) x0 (fun _ => ?_) (fun i x hx => ?_)
  · have e : (sumP n fun j => smul (kB (sl tms (32 * j) 32) / 16 ^ (64 - 0)) (P j)) = pzero := by
      rw [sumP_congr (G := fun _ => pzero) n (fun j hj => by
        rw [Nat.div_eq_of_lt (by have := kB_lt (hb j hj); rw [show (16 : Nat) ^ (64 - 0) = 2 ^ 256 by decide]; exact this)]; rfl)]
      clear h0 ht hb
      induction n with
      | zero => rfl
      | succ n ih => show padd (sumP n fun _ => pzero) pzero = pzero; rw [ih, padd_zero]
    rw [e]; exact h0
  · by_cases hi : i < 64
    · have hq := hx (by omega)
      obtain ⟨d1, r1, c1⟩ := doubled_r hq
      obtain ⟨d2, r2, c2⟩ := doubled_r r1
      obtain ⟨d3, r3, c3⟩ := doubled_r r2
      obtain ⟨d4, r4, c4⟩ := doubled_r r3
      rw [dbl4] at r4
      have hin := chain (Q := fun j a => j ≤ n → RepP a (padd (smul 16 (sumP n fun j => smul (kB (sl tms (32 * j) 32) / 16 ^ (64 - i)) (P j))) (sumP j fun j => smul (kB (sl tms (32 * j) 32) / 16 ^ (63 - i) % 16) (P j))))
        (S := fun j a b => j < n → ∀ w, TabC w → Calls Tryd.prog 28 #[aggI .u64 a, aggI .u64 (sl (ts j) (20 * (nib (sl tms (32 * j) 32) (63 - i)).toNat) 20)] w fun e w' => e = .returned (aggI .u64 b) ∧ Below w.heap.size w w')
        d4 (fun _ => by show RepP d4 (padd _ pzero); rw [padd_zero]; exact r4) (fun j a ha => by
          by_cases hj : j < n
          · have hv := nib_kB (hb j hj) (63 - i) (by omega)
            have hlt := nib_ok (sl tms (32 * j) 32) (63 - i)
            have hr := (ht j hj).2 (nib (sl tms (32 * j) 32) (63 - i)).toNat (by omega)
            have ev : (nib (sl tms (32 * j) 32) (63 - i)).toNat = kB (sl tms (32 * j) 32) / 16 ^ (63 - i) % 16 := by rw [hv]; exact Int.toNat_natCast _
            obtain ⟨b, rb, cb⟩ := with_r (ha (by omega)) hr
            rw [ev, padd_assoc] at rb
            exact ⟨b, fun _ => rb, fun _ => cb⟩
          · exact ⟨a, fun h => absurd h (by omega), fun h => absurd h hj⟩)
      obtain ⟨a, ha0, ha⟩ := hin
      have hfin := (ha n).1 (Nat.le_refl _)
      rw [smul_sumP, ← sumP_add] at hfin
      refine ⟨a n, fun _ => ?_, fun _ => ⟨fun c => match c with | 0 => x | 1 => d1 | 2 => d2 | 3 => d3 | _ => d4, a, rfl, ha0, rfl, ?_, fun j hj => ((ha j).1 hj).len, ?_, fun j hj => (ha j).2 hj⟩⟩
      · rw [sumP_congr (G := fun j => smul (kB (sl tms (32 * j) 32) / 16 ^ (63 - i)) (P j)) n (fun j hj => by
          have h := smul_nib (K := kB (sl tms (32 * j) 32)) (t := 63 - i) (P j)
          rw [show 63 - i + 1 = 64 - i by omega] at h
          exact h)] at hfin
        rw [show 64 - (i + 1) = 63 - i by omega]
        exact hfin
      · intro c hc
        match c, hc with
        | 0, _ => exact hq.len
        | 1, _ => exact r1.len
        | 2, _ => exact r2.len
        | 3, _ => exact r3.len
        | 4, _ => exact r4.len
        | c + 5, h => omega
      · intro c hc
        match c, hc with
        | 0, _ => exact c1
        | 1, _ => exact c2
        | 2, _ => exact c3
        | 3, _ => exact c4
        | c + 4, h => omega
    · exact ⟨x, fun h => absurd h (by omega), fun h => absurd h hi⟩
end Go.Proofs.YtelppapkffjmpaaDoor
end

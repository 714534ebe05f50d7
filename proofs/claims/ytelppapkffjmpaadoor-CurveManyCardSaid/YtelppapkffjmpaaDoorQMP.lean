/- Merged: A slice literal whose elements are rows of numbers. The program's Base. What the program's Base says. A point's bytes are read as that point. The bytes of y = 2 are no point's. The closures of Add and Neg. -/
import Derived.Great.BuildSlice
import Derived.Test.YtelppapkffjmpaaDoorQMI
import Derived.Test.YtelppapkffjmpaaDoorQMK
import Derived.Test.YtelppapkffjmpaaDoorQMO
import Derived.Test.YtelppapkffjmpaaDoorQMG
import Derived.Test.YtelppapkffjmpaaDoorQMA
section
namespace Go.Proofs.YtelppapkffjmpaaDoor
open Go.RowKit
set_option linter.unusedVariables false
set_option maxRecDepth 8000

theorem split1 {xs : List Int} {n : Nat} (h : xs.length = n + 1) : ∃ a ys, xs = a :: ys ∧ ys.length = n := by
  cases xs with
  | nil => simp at h
  | cons a ys => exact ⟨a, ys, rfl, by simpa using h⟩
def zeroC (K : IntKind) (s : Nat) : Value := .agg (Array.replicate s (Value.int K 0))
section
variable {P : Program} {ops : Array Oper} {o : Oper} {a : Act} {w : World} {R : Value → World → Prop}
theorem Does.buildS (hw : Region.wanted o (yielded ops a.tmps) = true) (t e : TypeId) (len : Nat) (parts : Array (Nat × Operand)) (ho : o.op = .buildSlice t len parts) (hu : P.underlying t = some (.slice e)) (K : IntKind) (s : Nat)
    (hs : (P.info? e).map (·.size) = some s) (hz : (P.info? e).bind (·.zero) = some (.agg (Array.replicate s (Value.int K 0)))) (hsmall : len * s ≤ 2 ^ 24) (hpos : 0 < len * s)
    (vs : List (Nat × Value)) (hv : (parts.map fun (i, x) => (i, a.eval x)).toList = vs) (zs : List Int)
    (hf : Instr.fill (fun i => some (i * s, s)) ((Array.range (len * s)).map ((zeroC K s).cells[· % (zeroC K s).cells.size]!)) vs = some (zs.map (Value.int K)).toArray)
    (hR : ∀ w1, Arr K w1 w.heap.size zs → w.heap.size < w1.heap.size → Below w.heap.size w w1 → R (.slice (some ⟨w.heap.size, 0, none⟩) len len) w1) : Does P ops o a w R :=
  Does.of_wp hw fun KK hK => by
    cases hi : P.info? e with
    | none => rw [hi] at hs; cases hs
    | some i =>
      rw [hi] at hz hs
      have hz' : i.zero = some (zeroC K s) := hz
      have hs' : i.size = s := by simpa using hs
      refine wp_buildSlice t e len parts ho _ i (zeroC K s) hu hi hz' (by rw [hs']; omega) (by rw [hs']; omega) (by rw [hs', hv]; exact hf) ?_
      exact hK _ _ (hR _ ⟨e, heap_alloc_new w _⟩ (Array.getElem?_eq_some_iff.1 (heap_alloc_new w _)).1 ((Below.refl _ _).alloc (Nat.le_refl _) _))
end
theorem fill_a32_1 {x : List Int} (h : x.length = 32) : Instr.fill (fun i => some (i * 32, 32)) ((Array.range (1 * 32)).map ((zeroC .u8 32).cells[· % (zeroC .u8 32).cells.size]!)) [(0, aggI .u8 x)] = some (x.map (Value.int .u8)).toArray := by
  obtain ⟨x0, xt0, rfl, h0⟩ := split1 h
  obtain ⟨x1, xt1, rfl, h1⟩ := split1 h0
  obtain ⟨x2, xt2, rfl, h2⟩ := split1 h1
  obtain ⟨x3, xt3, rfl, h3⟩ := split1 h2
  obtain ⟨x4, xt4, rfl, h4⟩ := split1 h3
  obtain ⟨x5, xt5, rfl, h5⟩ := split1 h4
  obtain ⟨x6, xt6, rfl, h6⟩ := split1 h5
  obtain ⟨x7, xt7, rfl, h7⟩ := split1 h6
  obtain ⟨x8, xt8, rfl, h8⟩ := split1 h7
  obtain ⟨x9, xt9, rfl, h9⟩ := split1 h8
  obtain ⟨x10, xt10, rfl, h10⟩ := split1 h9
  obtain ⟨x11, xt11, rfl, h11⟩ := split1 h10
  obtain ⟨x12, xt12, rfl, h12⟩ := split1 h11
  obtain ⟨x13, xt13, rfl, h13⟩ := split1 h12
  obtain ⟨x14, xt14, rfl, h14⟩ := split1 h13
  obtain ⟨x15, xt15, rfl, h15⟩ := split1 h14
  obtain ⟨x16, xt16, rfl, h16⟩ := split1 h15
  obtain ⟨x17, xt17, rfl, h17⟩ := split1 h16
  obtain ⟨x18, xt18, rfl, h18⟩ := split1 h17
  obtain ⟨x19, xt19, rfl, h19⟩ := split1 h18
  obtain ⟨x20, xt20, rfl, h20⟩ := split1 h19
  obtain ⟨x21, xt21, rfl, h21⟩ := split1 h20
  obtain ⟨x22, xt22, rfl, h22⟩ := split1 h21
  obtain ⟨x23, xt23, rfl, h23⟩ := split1 h22
  obtain ⟨x24, xt24, rfl, h24⟩ := split1 h23
  obtain ⟨x25, xt25, rfl, h25⟩ := split1 h24
  obtain ⟨x26, xt26, rfl, h26⟩ := split1 h25
  obtain ⟨x27, xt27, rfl, h27⟩ := split1 h26
  obtain ⟨x28, xt28, rfl, h28⟩ := split1 h27
  obtain ⟨x29, xt29, rfl, h29⟩ := split1 h28
  obtain ⟨x30, xt30, rfl, h30⟩ := split1 h29
  obtain ⟨x31, xt31, rfl, h31⟩ := split1 h30
  obtain rfl := List.length_eq_zero_iff.1 h31
  kernel_rfl
theorem fill_a32_2 {x y : List Int} (h : x.length = 32) (k : y.length = 32) : Instr.fill (fun i => some (i * 32, 32)) ((Array.range (2 * 32)).map ((zeroC .u8 32).cells[· % (zeroC .u8 32).cells.size]!)) [(0, aggI .u8 x), (1, aggI .u8 y)] = some ((x ++ y).map (Value.int .u8)).toArray := by
  obtain ⟨x0, xt0, rfl, h0⟩ := split1 h
  obtain ⟨x1, xt1, rfl, h1⟩ := split1 h0
  obtain ⟨x2, xt2, rfl, h2⟩ := split1 h1
  obtain ⟨x3, xt3, rfl, h3⟩ := split1 h2
  obtain ⟨x4, xt4, rfl, h4⟩ := split1 h3
  obtain ⟨x5, xt5, rfl, h5⟩ := split1 h4
  obtain ⟨x6, xt6, rfl, h6⟩ := split1 h5
  obtain ⟨x7, xt7, rfl, h7⟩ := split1 h6
  obtain ⟨x8, xt8, rfl, h8⟩ := split1 h7
  obtain ⟨x9, xt9, rfl, h9⟩ := split1 h8
  obtain ⟨x10, xt10, rfl, h10⟩ := split1 h9
  obtain ⟨x11, xt11, rfl, h11⟩ := split1 h10
  obtain ⟨x12, xt12, rfl, h12⟩ := split1 h11
  obtain ⟨x13, xt13, rfl, h13⟩ := split1 h12
  obtain ⟨x14, xt14, rfl, h14⟩ := split1 h13
  obtain ⟨x15, xt15, rfl, h15⟩ := split1 h14
  obtain ⟨x16, xt16, rfl, h16⟩ := split1 h15
  obtain ⟨x17, xt17, rfl, h17⟩ := split1 h16
  obtain ⟨x18, xt18, rfl, h18⟩ := split1 h17
  obtain ⟨x19, xt19, rfl, h19⟩ := split1 h18
  obtain ⟨x20, xt20, rfl, h20⟩ := split1 h19
  obtain ⟨x21, xt21, rfl, h21⟩ := split1 h20
  obtain ⟨x22, xt22, rfl, h22⟩ := split1 h21
  obtain ⟨x23, xt23, rfl, h23⟩ := split1 h22
  obtain ⟨x24, xt24, rfl, h24⟩ := split1 h23
  obtain ⟨x25, xt25, rfl, h25⟩ := split1 h24
  obtain ⟨x26, xt26, rfl, h26⟩ := split1 h25
  obtain ⟨x27, xt27, rfl, h27⟩ := split1 h26
  obtain ⟨x28, xt28, rfl, h28⟩ := split1 h27
  obtain ⟨x29, xt29, rfl, h29⟩ := split1 h28
  obtain ⟨x30, xt30, rfl, h30⟩ := split1 h29
  obtain ⟨x31, xt31, rfl, h31⟩ := split1 h30
  obtain rfl := List.length_eq_zero_iff.1 h31
  obtain ⟨y0, yt0, rfl, k0⟩ := split1 k
  obtain ⟨y1, yt1, rfl, k1⟩ := split1 k0
  obtain ⟨y2, yt2, rfl, k2⟩ := split1 k1
  obtain ⟨y3, yt3, rfl, k3⟩ := split1 k2
  obtain ⟨y4, yt4, rfl, k4⟩ := split1 k3
  obtain ⟨y5, yt5, rfl, k5⟩ := split1 k4
  obtain ⟨y6, yt6, rfl, k6⟩ := split1 k5
  obtain ⟨y7, yt7, rfl, k7⟩ := split1 k6
  obtain ⟨y8, yt8, rfl, k8⟩ := split1 k7
  obtain ⟨y9, yt9, rfl, k9⟩ := split1 k8
  obtain ⟨y10, yt10, rfl, k10⟩ := split1 k9
  obtain ⟨y11, yt11, rfl, k11⟩ := split1 k10
  obtain ⟨y12, yt12, rfl, k12⟩ := split1 k11
  obtain ⟨y13, yt13, rfl, k13⟩ := split1 k12
  obtain ⟨y14, yt14, rfl, k14⟩ := split1 k13
  obtain ⟨y15, yt15, rfl, k15⟩ := split1 k14
  obtain ⟨y16, yt16, rfl, k16⟩ := split1 k15
  obtain ⟨y17, yt17, rfl, k17⟩ := split1 k16
  obtain ⟨y18, yt18, rfl, k18⟩ := split1 k17
  obtain ⟨y19, yt19, rfl, k19⟩ := split1 k18
  obtain ⟨y20, yt20, rfl, k20⟩ := split1 k19
  obtain ⟨y21, yt21, rfl, k21⟩ := split1 k20
  obtain ⟨y22, yt22, rfl, k22⟩ := split1 k21
  obtain ⟨y23, yt23, rfl, k23⟩ := split1 k22
  obtain ⟨y24, yt24, rfl, k24⟩ := split1 k23
  obtain ⟨y25, yt25, rfl, k25⟩ := split1 k24
  obtain ⟨y26, yt26, rfl, k26⟩ := split1 k25
  obtain ⟨y27, yt27, rfl, k27⟩ := split1 k26
  obtain ⟨y28, yt28, rfl, k28⟩ := split1 k27
  obtain ⟨y29, yt29, rfl, k29⟩ := split1 k28
  obtain ⟨y30, yt30, rfl, k30⟩ := split1 k29
  obtain ⟨y31, yt31, rfl, k31⟩ := split1 k30
  obtain rfl := List.length_eq_zero_iff.1 k31
  kernel_rfl
theorem fill_point_1 {x : List Int} (h : x.length = 20) : Instr.fill (fun i => some (i * 20, 20)) ((Array.range (1 * 20)).map ((zeroC .u64 20).cells[· % (zeroC .u64 20).cells.size]!)) [(0, aggI .u64 x)] = some (x.map (Value.int .u64)).toArray := by
  obtain ⟨x0, xt0, rfl, h0⟩ := split1 h
  obtain ⟨x1, xt1, rfl, h1⟩ := split1 h0
  obtain ⟨x2, xt2, rfl, h2⟩ := split1 h1
  obtain ⟨x3, xt3, rfl, h3⟩ := split1 h2
  obtain ⟨x4, xt4, rfl, h4⟩ := split1 h3
  obtain ⟨x5, xt5, rfl, h5⟩ := split1 h4
  obtain ⟨x6, xt6, rfl, h6⟩ := split1 h5
  obtain ⟨x7, xt7, rfl, h7⟩ := split1 h6
  obtain ⟨x8, xt8, rfl, h8⟩ := split1 h7
  obtain ⟨x9, xt9, rfl, h9⟩ := split1 h8
  obtain ⟨x10, xt10, rfl, h10⟩ := split1 h9
  obtain ⟨x11, xt11, rfl, h11⟩ := split1 h10
  obtain ⟨x12, xt12, rfl, h12⟩ := split1 h11
  obtain ⟨x13, xt13, rfl, h13⟩ := split1 h12
  obtain ⟨x14, xt14, rfl, h14⟩ := split1 h13
  obtain ⟨x15, xt15, rfl, h15⟩ := split1 h14
  obtain ⟨x16, xt16, rfl, h16⟩ := split1 h15
  obtain ⟨x17, xt17, rfl, h17⟩ := split1 h16
  obtain ⟨x18, xt18, rfl, h18⟩ := split1 h17
  obtain ⟨x19, xt19, rfl, h19⟩ := split1 h18
  obtain rfl := List.length_eq_zero_iff.1 h19
  kernel_rfl
end Go.Proofs.YtelppapkffjmpaaDoor
end
section
namespace Go.Proofs.YtelppapkffjmpaaDoor
open Go.RowKit Go.Shelf
set_option linter.unusedVariables false
set_option maxRecDepth 8000

set_option maxHeartbeats 4000000 in
theorem base_walk (xk cr0 cr1 cr2 cr3 : List Int) (w : World) (hT : TabD w)
  (l_xk : xk.length = 32) (l_cr0 : cr0.length = 20) (l_cr1 : cr1.length = 20) (l_cr2 : cr2.length = 10) (l_cr3 : cr3.length = 32)
  (H0 : ∀ W, Ret 34 #[aggI .u64 bLn] (aggI .u64 cr0) W)
  (H1 : ∀ W B1 B4, TabD W → Arr .u8 W B1 xk → Arr .u64 W B4 cr0 → Ret 38 #[.slice (some ⟨B1, 0, none⟩) 1 1, .slice (some ⟨B4, 0, none⟩) 1 1] (aggI .u64 cr1) W)
  (H2 : ∀ W, Ret 40 #[aggI .u64 cr1] (aggI .u64 cr2) W)
  (H3 : ∀ W, Ret 41 #[aggI .u64 cr2] (aggI .u8 cr3) W) :
  Calls Tryd.prog 19 #[aggI .u8 xk] w fun e w' => e = .returned (aggI .u8 cr3) ∧ Below w.heap.size w w' := by
 go_enter Tryd.func19, Tryd.ntmps19
 go_wp2_with (first
   | (with_reducible refine at_n 1 ?_; refine wpList_boxI rfl 22 _ rfl .u8 xk rfl ?_; intro w1 A1 s1 b1; have BB := b1; have y1 := BB.size)
   | (with_reducible refine at_n 2 ?_; refine wpList_allocI rfl 22 rfl .u8 32 zero_a32 ?_; intro w2 A2 s2 b2; have q2_1 := A1.lt; replace A1 := A1.below b2; replace BB := below_then BB b2; have y2 := BB.size))
 have k3_0 := A1.lt
 have k3_1 := A2.lt
 refine wp_region_ord [[], [0], [], [2], [3], [1, 4, 3], [5, 5], [6, 6], [7, 7, 0, 1, 2, 3, 4, 5, 6, 7]] [some 3, some 4, some 5, some 6, some 7, some 8, some 9, some 10, none] 8 (fun b w' => Arr .u8 w' (w.heap.size) xk ∧ Arr .u8 w' (w1.heap.size) (if b then cr3 else List.replicate 32 0) ∧ Below w.heap.size w w') (fun opn f W9 => match opn with | 0 => f 0 = aggI .u8 xk | 1 => (∃ B, f 1 = .slice (some ⟨B, 0, none⟩) 1 1 ∧ w1.heap.size < B ∧ Arr .u8 W9 B xk) | 2 => f 2 = aggI .u64 bLn | 3 => f 3 = aggI .u64 cr0 | 4 => (∃ B, f 4 = .slice (some ⟨B, 0, none⟩) 1 1 ∧ w1.heap.size < B ∧ Arr .u64 W9 B cr0) | 5 => f 5 = aggI .u64 cr1 | 6 => f 6 = aggI .u64 cr2 | 7 => f 7 = aggI .u8 cr3 | 8 => f 8 = undef | _ => True) (fun _ v v' => ∃ cs, v' = v.setRow (w1.heap.size) cs) (by kernel_rfl) (by kernel_rfl) (by kernel_rfl) (by kernel_rfl) (fun b v v' hb h => ⟨h.1.below hb, h.2.1.below hb, below_then h.2.2 hb⟩) (by intro j g v v' hb h; match j, h with | 0, h => exact h | 1, h => (obtain ⟨B, e, l, A⟩ := h; exact ⟨B, e, l, A.below hb⟩) | 2, h => exact h | 3, h => exact h | 4, h => (obtain ⟨B, e, l, A⟩ := h; exact ⟨B, e, l, A.below hb⟩) | 5, h => exact h | 6, h => exact h | 7, h => exact h | 8, h => exact h | _ + 9, h => exact trivial) (by intro j g f v v' hj hS h; obtain ⟨cs, rfl⟩ := hS; match j, h with | 0, h => exact h | 1, h => (obtain ⟨B, e, l, A⟩ := h; exact ⟨B, e, l, A.rowOther (by omega) cs⟩) | 2, h => exact h | 3, h => exact h | 4, h => (obtain ⟨B, e, l, A⟩ := h; exact ⟨B, e, l, A.rowOther (by omega) cs⟩) | 5, h => exact h | 6, h => exact h | 7, h => exact h | 8, h => exact h | _ + 9, h => exact trivial) ⟨A1.drew, A2.drew, BB.drew⟩ ?_ ?_
 ·
  refine StepL.other (k := 0) rfl (fun b f W hb hG hH => ?_) ?_
  ·
   obtain rfl := hb rfl
   clear hH
   generalize hA : putL _ _ _ _ = A
   have q1 : A.eval (.tmp 1) = .pointer (some ⟨w.heap.size, 0, none⟩) := putLn hA 1 rfl rfl rfl
   clear hA
   exact Does.loadM rfl 22 _ rfl 32 _ und_a32 rfl info_a32 (w.heap.size) (0) q1 .u8 (xk) (hG.1) (by omega) (sl_all l_xk) ⟨Below.refl _ _, rfl⟩
  refine StepL.other (k := 1) rfl (fun b f W hb hG hH => ?_) ?_
  ·
   obtain rfl := hb rfl
   obtain ⟨d0, -⟩ := hH
   generalize hA : putL _ _ _ _ = A
   have q3 := putLl hA 3 d0 rfl rfl
   have r3 := slot_get q3
   clear hA
   refine Does.buildS rfl 61 _ 1 _ rfl Tryd.underlying61 .u8 32 info_a32 zero_a32 (by decide) (by decide) _ (by simp [q3]) (xk) (fill_a32_1 l_xk) ?_
   intro W1 D1 s1 b1
   exact ⟨b1, _, rfl, hG.2.1.lt, D1⟩
  refine StepL.other (k := 2) rfl (fun b f W hb hG hH => ?_) ?_
  ·
   obtain rfl := hb rfl
   clear hH
   generalize hA : putL _ _ _ _ = A
   clear hA
   exact Does.loadG rfl 44 _ rfl 10 _ Tryd.underlying44 rfl info_plane 0 0 rfl .u64 (bLn) ((hT.below (hG.2.2)).g0) (by rw [l_bLn]; decide) (sl_all l_bLn) ⟨Below.refl _ _, rfl⟩
  refine StepL.other (k := 3) rfl (fun b f W hb hG hH => ?_) ?_
  ·
   obtain rfl := hb rfl
   obtain ⟨d2, -⟩ := hH
   generalize hA : putL _ _ _ _ = A
   have q5 := putLl hA 5 d2 rfl rfl
   have r5 := slot_get q5
   clear hA
   refine Does.call rfl _ _ (by go_simp) ((H0 W).mono ?_)
   rintro e w' ⟨rfl, hb'⟩
   exact ⟨_, rfl, hb', rfl⟩
  refine StepL.other (k := 4) rfl (fun b f W hb hG hH => ?_) ?_
  ·
   obtain rfl := hb rfl
   obtain ⟨d3, -⟩ := hH
   generalize hA : putL _ _ _ _ = A
   have q6 := putLl hA 6 d3 rfl rfl
   have r6 := slot_get q6
   clear hA
   refine Does.buildS rfl 40 _ 1 _ rfl Tryd.underlying40 .u64 20 info_point zero_point (by decide) (by decide) _ (by simp [q6]) (cr0) (fill_point_1 l_cr0) ?_
   intro W1 D1 s1 b1
   exact ⟨b1, _, rfl, hG.2.1.lt, D1⟩
  refine StepL.other (k := 5) rfl (fun b f W hb hG hH => ?_) ?_
  ·
   obtain rfl := hb rfl
   obtain ⟨⟨B1, d1, g1, E1⟩, ⟨B4, d4, g4, E4⟩, d3, -⟩ : (∃ B, f 1 = .slice (some ⟨B, 0, none⟩) 1 1 ∧ w1.heap.size < B ∧ Arr .u8 W B xk) ∧ (∃ B, f 4 = .slice (some ⟨B, 0, none⟩) 1 1 ∧ w1.heap.size < B ∧ Arr .u64 W B cr0) ∧ (f 3 = aggI .u64 cr0) ∧ True := hH
   generalize hA : putL _ _ _ _ = A
   have q4 := putLl hA 4 d1 rfl rfl
   have r4 := slot_get q4
   have q7 := putLl hA 7 d4 rfl rfl
   have r7 := slot_get q7
   clear hA
   refine Does.call rfl _ _ (by go_simp) ((H1 W B1 B4 (hT.below (hG.2.2)) E1 E4).mono ?_)
   rintro e w' ⟨rfl, hb'⟩
   exact ⟨_, rfl, hb', rfl⟩
  refine StepL.other (k := 6) rfl (fun b f W hb hG hH => ?_) ?_
  ·
   obtain rfl := hb rfl
   obtain ⟨d5, -, -⟩ := hH
   generalize hA : putL _ _ _ _ = A
   have q8 := putLl hA 8 d5 rfl rfl
   have r8 := slot_get q8
   clear hA
   refine Does.call rfl _ _ (by go_simp) ((H2 W).mono ?_)
   rintro e w' ⟨rfl, hb'⟩
   exact ⟨_, rfl, hb', rfl⟩
  refine StepL.other (k := 7) rfl (fun b f W hb hG hH => ?_) ?_
  ·
   obtain rfl := hb rfl
   obtain ⟨d6, -, -⟩ := hH
   generalize hA : putL _ _ _ _ = A
   have q9 := putLl hA 9 d6 rfl rfl
   have r9 := slot_get q9
   clear hA
   refine Does.call rfl _ _ (by go_simp) ((H3 W).mono ?_)
   rintro e w' ⟨rfl, hb'⟩
   exact ⟨_, rfl, hb', rfl⟩
  refine StepL.self (k := 8) rfl (fun f W hG hH => ?_) ?_
  ·
   obtain ⟨d7, -, d0, ⟨B1, d1, g1, E1⟩, d2, d3, ⟨B4, d4, g4, E4⟩, d5, d6, -, -⟩ : (f 7 = aggI .u8 cr3) ∧ (f 7 = aggI .u8 cr3) ∧ (f 0 = aggI .u8 xk) ∧ (∃ B, f 1 = .slice (some ⟨B, 0, none⟩) 1 1 ∧ w1.heap.size < B ∧ Arr .u8 W B xk) ∧ (f 2 = aggI .u64 bLn) ∧ (f 3 = aggI .u64 cr0) ∧ (∃ B, f 4 = .slice (some ⟨B, 0, none⟩) 1 1 ∧ w1.heap.size < B ∧ Arr .u64 W B cr0) ∧ (f 5 = aggI .u64 cr1) ∧ (f 6 = aggI .u64 cr2) ∧ (f 7 = aggI .u8 cr3) ∧ True := hH
   generalize hA : putL _ _ _ _ = A
   have q2 : A.eval (.tmp 2) = .pointer (some ⟨w1.heap.size, 0, none⟩) := putLn hA 2 rfl rfl rfl
   have r2 := slot_get q2
   have q10 := putLl hA 10 d7 rfl rfl
   have r10 := slot_get q10
   clear hA
   have hZ : Arr .u8 W (w1.heap.size) (List.replicate 32 0) := hG.2.1
   refine Does.storeI rfl 22 _ _ rfl 32 info_a32 (w1.heap.size) q2 .u8 _ (cr3) q10 hZ (rfl) (l_cr3) ?_
   intro A9
   exact ⟨⟨_, rfl⟩, ⟨hG.1.rowOther (by omega) _, A9, Below.setRow hG.2.2 (by omega) _⟩, rfl⟩
  exact trivial
 ·
  intro f V3 hG hH
  obtain ⟨d0, ⟨B1, d1, g1, E1⟩, d2, d3, ⟨B4, d4, g4, E4⟩, d5, d6, d7, d8, -⟩ : (f 0 = aggI .u8 xk) ∧ (∃ B, f 1 = .slice (some ⟨B, 0, none⟩) 1 1 ∧ w1.heap.size < B ∧ Arr .u8 V3 B xk) ∧ (f 2 = aggI .u64 bLn) ∧ (f 3 = aggI .u64 cr0) ∧ (∃ B, f 4 = .slice (some ⟨B, 0, none⟩) 1 1 ∧ w1.heap.size < B ∧ Arr .u64 V3 B cr0) ∧ (f 5 = aggI .u64 cr1) ∧ (f 6 = aggI .u64 cr2) ∧ (f 7 = aggI .u8 cr3) ∧ (f 8 = undef) ∧ True := hH
  rw [show List.range (List.length [[], [0], [], [2], [3], [1, 4, 3], [5, 5], [6, 6], [7, 7, 0, 1, 2, 3, 4, 5, 6, 7]]) = [0, 1, 2, 3, 4, 5, 6, 7, 8] from rfl]
  simp only [putL, List.getElem?_cons_zero, List.getElem?_cons_succ, Option.join, Option.bind_some, id_eq, Act.put, List.setIfInBounds_toArray, List.set_cons_zero, List.set_cons_succ, d0, d1, d2, d3, d4, d5, d6, d7]
  clear d0 d1 d2 d3 d4 d5 d6 d7 d8
  clear A1 A2
  obtain ⟨A1, A2, BV⟩ := hG
  have A2 : Arr .u8 V3 (w1.heap.size) cr3 := A2
  clear BB
  have BB := BV
  clear BV
  have zz3 := BB.size
  go_wp2
  refine bodyPost_ret (results_cellM rfl _ 32 _ und_a32 rfl info_a32 (w1.heap.size) rfl .u8 _ A2 (l_cr3)) rfl ?_
  exact ⟨rfl, BB⟩
end Go.Proofs.YtelppapkffjmpaaDoor
end
section
namespace Go.Proofs.YtelppapkffjmpaaDoor
open Go.RowKit Go.Shelf
set_option linter.unusedVariables false
set_option maxRecDepth 8000

theorem bLn_x : LF (sl bLn 0 5) bxF := ⟨⟨rfl, small_of5 (by decide) (by decide) (by decide) (by decide) (by decide), by decide +kernel⟩⟩
theorem bLn_y : LF (sl bLn 5 5) byF := ⟨⟨rfl, small_of5 (by decide) (by decide) (by decide) (by decide) (by decide), by decide +kernel⟩⟩
theorem bLn_pl : PlL bLn bP.x bP.y := ⟨rfl, bLn_x, bLn_y⟩
theorem TabD.c {w : World} (h : TabD w) : TabC w := ⟨h.g0, h.g1⟩
theorem sumP_one (f : Nat → Pt) : sumP 1 f = f 0 := by
  simp only [sumP]
  first | exact zero_padd _ | exact padd_zero _ | rfl
theorem base_r {k : List Int} (hk : Bytes k) (lk : k.length = 32) (w : World) (hT : TabD w) : Calls Tryd.prog 19 #[aggI .u8 k] w fun e w' => e = .returned (aggI .u8 (encB (smul (kB k) bP))) ∧ Below w.heap.size w w' := by
  obtain ⟨rs, hr, H0⟩ := raised_r (P := bP) bLn_pl
  obtain ⟨ms, hm, H1⟩ := many_r (n := 1) (tms := k) (pts := rs) (P := fun _ => bP) (by omega) (by omega) hk (by rw [lk]) (by rw [hr.len]) (fun j hj => by
    obtain rfl : j = 0 := by omega
    rw [Nat.mul_zero, sl_all hr.len]
    exact hr)
  rw [sumP_one, Nat.mul_zero, sl_all lk] at hm
  obtain ⟨fs, hf, H2⟩ := flat_r hm
  exact base_walk (hT := hT) (l_xk := lk) (l_cr0 := hr.len) (l_cr1 := hm.len) (l_cr2 := hf.len) (l_cr3 := encB_len _) (H0 := H0) (H1 := fun W B1 B4 hW A1 A4 => H1 W B1 B4 1 1 hW.c A1 A4) (H2 := H2) (H3 := pbytes_r hf)
def one32 : List Int := 1 :: List.replicate 31 0
def two32 : List Int := 2 :: List.replicate 31 0
def base32 : List Int := 88 :: List.replicate 31 102
theorem bytes_dec {l : List Int} (h : l.all (fun x => decide (0 ≤ x ∧ x ≤ 255)) = true) : Bytes l := fun x hx => of_decide_eq_true (List.all_eq_true.1 h x hx)
theorem kB_one : kB one32 = 1 := by decide +kernel
theorem kB_z32 : kB z32 = 0 := by decide +kernel
theorem encB_bP : encB bP = base32 := by decide +kernel
theorem encB_zero : encB pzero = one32 := by decide +kernel
theorem base_one (w : World) (hT : TabD w) : Calls Tryd.prog 19 #[aggI .u8 one32] w fun e w' => e = .returned (aggI .u8 base32) ∧ Below w.heap.size w w' := by
  have h := base_r (k := one32) (bytes_dec (by decide)) rfl w hT
  rw [kB_one, smul_one, encB_bP] at h
  exact h
theorem base_none (w : World) (hT : TabD w) : Calls Tryd.prog 19 #[aggI .u8 z32] w fun e w' => e = .returned (aggI .u8 one32) ∧ Below w.heap.size w w' := by
  have h := base_r (k := z32) (bytes_dec (by decide)) rfl w hT
  rw [kB_z32, show smul 0 bP = pzero from rfl, encB_zero] at h
  exact h
end Go.Proofs.YtelppapkffjmpaaDoor
end
section
namespace Go.Proofs.YtelppapkffjmpaaDoor
open Go.RowKit Go.Shelf
set_option linter.unusedVariables false
set_option maxRecDepth 8000

theorem at0_set_self {l : List Int} {k : Nat} (h : k < l.length) (v : Int) : at0 (l.set k v) k = v := by simp [at0, h]
theorem set_at0 {l : List Int} {k : Nat} (h : k < l.length) : l.set k (at0 l k) = l := by
  refine List.ext_getElem (by simp) fun i h1 h2 => ?_
  rw [List.getElem_set]
  split
  · next hi => subst hi; simp [at0, h]
  · rfl
theorem encB_top (P : Pt) : at0 (encB P) 31 = at0 (numB (P.y.val : Int)) 31 + (P.x.val : Int) % 2 * 128 := by
  rw [encB_set, at0_set_self (by rw [numB_length]; decide)]
theorem encB_low (P : Pt) : lowB (encB P) = numB (P.y.val : Int) := by
  have ht := top_lt P.y
  unfold lowB
  rw [encB_top, encB_set, List.set_set]
  rw [show (at0 (numB (P.y.val : Int)) 31 + (P.x.val : Int) % 2 * 128) % 128 = at0 (numB (P.y.val : Int)) 31 by omega]
  exact set_at0 (by rw [numB_length]; decide)
theorem encB_yI (P : Pt) : yI (encB P) = (P.y.val : Int) := by
  unfold yI
  rw [encB_low]
  exact valB_numB _ (val_lt2 P.y).1 (val_lt2 P.y).2
theorem ofI_self (a : FF) : ofI (a.val : Int) = a := ff_eq (by rw [ofI_val, Int.emod_eq_of_lt (val_lt a).1 (val_lt a).2])
theorem encB_yF (P : Pt) : yF (encB P) = P.y := by unfold yF; rw [encB_yI, ofI_self]
theorem encB_od (P : Pt) : odB (encB P) = decide ((P.x.val : Int) % 2 = 1) := by
  have ht := top_lt P.y
  unfold odB
  rw [encB_top]
  exact decide_eq_decide.2 (by omega)
theorem uF_on (P : Pt) : uF P.y = P.x * P.x := by
  have hi := mul_finv (dy_ne P.y)
  have ho := P.on
  unfold On at ho
  unfold uF
  generalize finv (P.y*P.y*dF + 1) = f at *
  grobner
theorem okF_sq (a : FF) : okF (a * a) = true := by
  unfold okF
  rw [val_mul]
  exact ok_square _
theorem rF_even (u : FF) : ((rF u).val : Int) % 2 = 0 := by rw [rF_val]; exact rV_even _
theorem rF_or (a : FF) : rF (a * a) = a ∨ rF (a * a) = -a := by
  have h := rF_sq (okF_sq a)
  generalize rF (a * a) = r at *
  have h2 : (r - a) * (r + a) = 0 := by grobner
  rcases mulz h2 with h3 | h3
  · left; grobner
  · right; grobner
theorem neg_par {a : FF} (h : a ≠ 0) : ((-a).val : Int) = pV - (a.val : Int) := by
  have hv := val_lt a
  have h0 : (a.val : Int) ≠ 0 := fun e => h (ff_eq (by rw [e]; decide +kernel))
  rw [val_neg, show 0 - (a.val : Int) = (pV - (a.val : Int)) + pV * (-1) by omega, Int.add_mul_emod_self_left, Int.emod_eq_of_lt (by omega) (by omega)]
theorem pV_odd : pV % 2 = 1 := by decide +kernel
theorem encB_is (P : Pt) : IsPt (encB P) := by
  refine ⟨by rw [encB_yI]; exact (val_lt _).2, by rw [encB_yF, uF_on]; exact okF_sq _, ?_⟩
  rintro ⟨h1, h2⟩
  rw [encB_od] at h1
  unfold rtB at h2
  rw [encB_yF, uF_on] at h2
  have h3 := rF_sq (okF_sq P.x)
  rw [h2] at h3
  have h4 : P.x * P.x = 0 := by rw [← h3]; grobner
  have h5 : P.x = 0 := (mulz h4).elim id id
  rw [h5] at h1
  exact absurd h1 (by decide +kernel)
theorem encB_xF (P : Pt) : xF (encB P) = P.x := by
  have he := rF_even (P.x * P.x)
  have ho := pV_odd
  unfold xF rtB
  rw [encB_od, encB_yF, uF_on]
  by_cases h0 : P.x = 0
  · rw [h0] at he ⊢
    rw [decide_eq_false (show ¬ (((0 : FF).val : Nat) : Int) % 2 = 1 by decide +kernel)]
    rcases rF_or 0 with h | h
    · exact h
    · refine Eq.trans h ?_
      decide +kernel
  · have hn := neg_par h0
    rcases rF_or P.x with h | h
    · rw [h] at he ⊢
      rw [decide_eq_false (show ¬ (P.x.val : Int) % 2 = 1 by omega)]
      rfl
    · rw [h] at he ⊢
      rw [hn] at he
      rw [decide_eq_true (show (P.x.val : Int) % 2 = 1 by omega)]
      show - -P.x = P.x
      grobner
/-- A point's bytes are that point's. -/
theorem dec_enc (P : Pt) (h : IsPt (encB P)) : ptB (encB P) h = P := Pt.ext (encB_xF P) (encB_yF P)
theorem encB_bytes (P : Pt) : Bytes (encB P) := by
  rw [encB_set]
  have ht := top_lt P.y
  intro x hx
  rcases List.mem_or_eq_of_mem_set hx with h1 | h1
  · exact numB_bytes _ x h1
  · omega
theorem base32_is : IsPt base32 := by rw [← encB_bP]; exact encB_is bP
end Go.Proofs.YtelppapkffjmpaaDoor
end
section
namespace Go.Proofs.YtelppapkffjmpaaDoor
open Go.RowKit Go.Shelf
set_option linter.unusedVariables false
set_option maxRecDepth 8000

def u2F : FF := ⟨43446857792565604583783486763960003913525092658904367978015407342224011949000, by decide +kernel⟩
theorem mulf {c f n : FF} (h : c*f = 1) : c*(n*f) = n := by grobner
theorem u2F_is : uF 2 = u2F := by
  refine canc (dy_ne 2) ?_
  have hi := mul_finv (dy_ne 2)
  have h2 : (2*2*dF + 1) * u2F = (2*2 - 1 : FF) := by decide +kernel
  rw [h2]
  exact mulf hi
theorem u2F_no : okF u2F = false := by
  have hv := val_lt u2F
  have h0 : ((u2F.val : Nat) : Int) ≠ 0 := by decide +kernel
  have hi := okV_iff hv h0
  unfold okF
  cases hk : okV (u2F.val : Int) with
  | false => rfl
  | true =>
    exfalso
    have h1 := hi.1 hk
    have h2 : pmo pN 43446857792565604583783486763960003913525092658904367978015407342224011949000 256 (kN + kN) = 43446857792565604583783486763960003913525092658904367978015407342224011949000 ^ (kN + kN) % pN := pmo_eq _ _ _ _ (by decide +kernel)
    have h3 : pmo pN 43446857792565604583783486763960003913525092658904367978015407342224011949000 256 (kN + kN) = pN - 1 := by decide +kernel
    rw [h3] at h2
    rw [pV_nat, show ((u2F.val : Nat) : Int) = ((43446857792565604583783486763960003913525092658904367978015407342224011949000 : Nat) : Int) from rfl, ← Int.natCast_pow, ← Int.natCast_emod, ← h2] at h1
    exact absurd h1 (by decide +kernel)
theorem two_not : ¬ IsPt two32 := by
  intro h
  have hk := h.ok
  rw [show yF two32 = 2 by decide +kernel, u2F_is, u2F_no] at hk
  cases hk
end Go.Proofs.YtelppapkffjmpaaDoor
end
section
namespace Go.Proofs.YtelppapkffjmpaaDoor
open Go.RowKit Go.Shelf
set_option linter.unusedVariables false
set_option maxRecDepth 8000

set_option maxHeartbeats 2000000 in
theorem add1_walk (pts pts_0_20 pts_20_20 cr0 : List Int) (Bp : Nat) (w : World) (hT : TabD w)
  (A_p0 : Arr .u64 w Bp pts)
  (l_pts : pts.length = 40) (l_pts_0_20 : pts_0_20.length = 20) (l_pts_20_20 : pts_20_20.length = 20) (l_cr0 : cr0.length = 20)
  (h_pts_0_20 : sl pts 0 20 = pts_0_20)
  (h_pts_20_20 : sl pts 20 20 = pts_20_20)
  (H0 : ∀ W, TabD W → Ret 28 #[aggI .u64 pts_0_20, aggI .u64 pts_20_20] (aggI .u64 cr0) W) :
  Calls Tryd.prog 27 #[.slice (some ⟨Bp, 0, none⟩) 2 2] w fun e w' => e = .returned (aggI .u64 cr0) ∧ Below w.heap.size w w' := by
 go_enter Tryd.func27, Tryd.ntmps27
 go_wp2_with (first
   | (with_reducible refine at_n 2 ?_; refine wpList_allocI rfl 46 rfl .u64 20 zero_point ?_; intro w1 A2 s1 b1; have q1_p0 := A_p0.lt; replace A_p0 := A_p0.below b1; have BB := b1; have y1 := BB.size))
 have k2_0 := A_p0.lt
 have k2_1 := A2.lt
 refine wp_region_ord [[], [0], [1], [], [3], [4], [2, 5], [6, 6, 0, 1, 2, 3, 4, 5, 6]] [some 3, some 4, some 5, some 6, some 7, some 8, some 9, none] 7 (fun b w' => Arr .u64 w' (Bp) pts ∧ Arr .u64 w' (w.heap.size) (if b then cr0 else List.replicate 20 0) ∧ Below w.heap.size w w') (fun opn f _ => match opn with | 0 => f 0 = .slice (some ⟨Bp, 0, none⟩) 2 2 | 1 => f 1 = .pointer (some ⟨Bp, 0, none⟩) | 2 => f 2 = aggI .u64 pts_0_20 | 3 => f 3 = .slice (some ⟨Bp, 0, none⟩) 2 2 | 4 => f 4 = .pointer (some ⟨Bp, 20, none⟩) | 5 => f 5 = aggI .u64 pts_20_20 | 6 => f 6 = aggI .u64 cr0 | 7 => f 7 = undef | _ => True) (fun _ v v' => ∃ cs, v' = v.setRow (w.heap.size) cs) (by kernel_rfl) (by kernel_rfl) (by kernel_rfl) (by kernel_rfl) (fun b v v' hb h => ⟨h.1.below hb, h.2.1.below hb, below_then h.2.2 hb⟩) (fun _ _ _ _ _ h => h) (fun _ _ _ _ _ _ _ h => h) ⟨A_p0.drew, A2.drew, BB.drew⟩ ?_ ?_
 ·
  refine StepL.other (k := 0) rfl (fun b f W hb hG hH => ?_) ?_
  ·
   obtain rfl := hb rfl
   clear hH
   generalize hA : putL _ _ _ _ = A
   have q0 : A.eval (.tmp 0) = .slice (some ⟨Bp, 0, none⟩) 2 2 := putLn hA 0 rfl rfl rfl
   have r0 := slot_get q0
   clear hA
   refine Does.pure rfl (.slice (some ⟨Bp, 0, none⟩) 2 2) ?_ ⟨Below.refl _ _, rfl⟩
   go_simp
  refine StepL.other (k := 1) rfl (fun b f W hb hG hH => ?_) ?_
  ·
   obtain rfl := hb rfl
   obtain ⟨d0, -⟩ := hH
   generalize hA : putL _ _ _ _ = A
   have q3 := putLl hA 3 d0 rfl rfl
   clear hA
   exact Does.indexS rfl 40 _ _ rfl Tryd.underlying40 info_point (Bp) 0 q3 .i64 0 rfl (by decide) (by decide) (o1 := 0) rfl ⟨Below.refl _ _, rfl⟩
  refine StepL.other (k := 2) rfl (fun b f W hb hG hH => ?_) ?_
  ·
   obtain rfl := hb rfl
   obtain ⟨d1, -⟩ := hH
   generalize hA : putL _ _ _ _ = A
   have q4 := putLl hA 4 d1 rfl rfl
   clear hA
   exact Does.loadM rfl 46 _ rfl 20 _ Tryd.underlying46 rfl info_point (Bp) (0) q4 .u64 (pts) (hG.1) (by omega) (h_pts_0_20) ⟨Below.refl _ _, rfl⟩
  refine StepL.other (k := 3) rfl (fun b f W hb hG hH => ?_) ?_
  ·
   obtain rfl := hb rfl
   clear hH
   generalize hA : putL _ _ _ _ = A
   have q0 : A.eval (.tmp 0) = .slice (some ⟨Bp, 0, none⟩) 2 2 := putLn hA 0 rfl rfl rfl
   have r0 := slot_get q0
   clear hA
   refine Does.pure rfl (.slice (some ⟨Bp, 0, none⟩) 2 2) ?_ ⟨Below.refl _ _, rfl⟩
   go_simp
  refine StepL.other (k := 4) rfl (fun b f W hb hG hH => ?_) ?_
  ·
   obtain rfl := hb rfl
   obtain ⟨d3, -⟩ := hH
   generalize hA : putL _ _ _ _ = A
   have q6 := putLl hA 6 d3 rfl rfl
   clear hA
   exact Does.indexS rfl 40 _ _ rfl Tryd.underlying40 info_point (Bp) 0 q6 .i64 1 rfl (by decide) (by decide) (o1 := 20) rfl ⟨Below.refl _ _, rfl⟩
  refine StepL.other (k := 5) rfl (fun b f W hb hG hH => ?_) ?_
  ·
   obtain rfl := hb rfl
   obtain ⟨d4, -⟩ := hH
   generalize hA : putL _ _ _ _ = A
   have q7 := putLl hA 7 d4 rfl rfl
   clear hA
   exact Does.loadM rfl 46 _ rfl 20 _ Tryd.underlying46 rfl info_point (Bp) (20) q7 .u64 (pts) (hG.1) (by omega) (h_pts_20_20) ⟨Below.refl _ _, rfl⟩
  refine StepL.other (k := 6) rfl (fun b f W hb hG hH => ?_) ?_
  ·
   obtain rfl := hb rfl
   obtain ⟨d2, d5, -⟩ := hH
   generalize hA : putL _ _ _ _ = A
   have q5 := putLl hA 5 d2 rfl rfl
   have r5 := slot_get q5
   have q8 := putLl hA 8 d5 rfl rfl
   have r8 := slot_get q8
   clear hA
   refine Does.call rfl _ _ (by go_simp) ((H0 W (hT.below (hG.2.2))).mono ?_)
   rintro e w' ⟨rfl, hb'⟩
   exact ⟨_, rfl, hb', rfl⟩
  refine StepL.self (k := 7) rfl (fun f W hG hH => ?_) ?_
  ·
   obtain ⟨d6, -, d0, d1, d2, d3, d4, d5, -, -⟩ := hH
   generalize hA : putL _ _ _ _ = A
   have q2 : A.eval (.tmp 2) = .pointer (some ⟨w.heap.size, 0, none⟩) := putLn hA 2 rfl rfl rfl
   have r2 := slot_get q2
   have q9 := putLl hA 9 d6 rfl rfl
   have r9 := slot_get q9
   clear hA
   have hZ : Arr .u64 W (w.heap.size) (List.replicate 20 0) := hG.2.1
   refine Does.storeI rfl 46 _ _ rfl 20 info_point (w.heap.size) q2 .u64 _ (cr0) q9 hZ (rfl) (l_cr0) ?_
   intro A9
   exact ⟨⟨_, rfl⟩, ⟨hG.1.rowOther (by omega) _, A9, Below.setRow hG.2.2 (by omega) _⟩, rfl⟩
  exact trivial
 ·
  intro f V2 hG hH
  obtain ⟨d0, d1, d2, d3, d4, d5, d6, d7, -⟩ : (f 0 = .slice (some ⟨Bp, 0, none⟩) 2 2) ∧ (f 1 = .pointer (some ⟨Bp, 0, none⟩)) ∧ (f 2 = aggI .u64 pts_0_20) ∧ (f 3 = .slice (some ⟨Bp, 0, none⟩) 2 2) ∧ (f 4 = .pointer (some ⟨Bp, 20, none⟩)) ∧ (f 5 = aggI .u64 pts_20_20) ∧ (f 6 = aggI .u64 cr0) ∧ (f 7 = undef) ∧ True := hH
  rw [show List.range (List.length [[], [0], [1], [], [3], [4], [2, 5], [6, 6, 0, 1, 2, 3, 4, 5, 6]]) = [0, 1, 2, 3, 4, 5, 6, 7] from rfl]
  simp only [putL, List.getElem?_cons_zero, List.getElem?_cons_succ, Option.join, Option.bind_some, id_eq, Act.put, List.setIfInBounds_toArray, List.set_cons_zero, List.set_cons_succ, d0, d1, d2, d3, d4, d5, d6]
  clear d0 d1 d2 d3 d4 d5 d6 d7
  clear A_p0 A2
  obtain ⟨A_p0, A2, BV⟩ := hG
  have A2 : Arr .u64 V2 (w.heap.size) cr0 := A2
  clear BB
  have BB := BV
  clear BV
  have zz2 := BB.size
  go_wp2
  refine bodyPost_ret (results_cellM rfl _ 20 _ Tryd.underlying46 rfl info_point (w.heap.size) rfl .u64 _ A2 (l_cr0)) rfl ?_
  exact ⟨rfl, BB⟩
end Go.Proofs.YtelppapkffjmpaaDoor
end

/- Merged: The reference's sums, negatives, multiples of points told by bytes. What the reference's sums, negatives and multiples of points told by bytes say. -/
import Derived.Test.YtelppapkffjmpaaDoorQMJ
import Derived.Test.YtelppapkffjmpaaDoorQMK
import Derived.Test.YtelppapkffjmpaaDoorQMN
section
namespace Go.Proofs.YtelppapkffjmpaaDoor
open Go.RowKit Go.Shelf
set_option linter.unusedVariables false
set_option maxRecDepth 8000

set_option maxHeartbeats 2000000 in
theorem right_t (xa pa : List Int) (w : World) (hT : TabD w)
    (l_xa : xa.length = 32) (l_pa : pa.length = 20)
    (H0 : ∀ W, TabD W → Ret 36 #[aggI .u8 xa] (.tuple #[aggI .u64 pa, .bool true]) W) :
    Calls Tryd.prog 15 #[aggI .u8 xa] w fun e w' => e = .returned (.bool true) ∧ Below w.heap.size w w' := by
  go_enter Tryd.func15, Tryd.ntmps15
  go_wp2_with (first
      | (with_reducible refine at_n 1 ?_; refine wpList_boxI rfl 22 _ rfl .u8 xa rfl ?_; intro w1 A1 s1 b1; have BB := b1; have y1 := BB.size)
      | (with_reducible refine at_n 6 ?_; refine wpList_val' (fun R hR => Does.loadM rfl 22 _ rfl 32 _ und_a32 rfl info_a32 (w.heap.size) 0 rfl .u8 (xa) (A1) (by omega) (sl_all l_xa) hR) ?_)
      | (with_reducible refine at_n 3 ?_; refine wpList_allocI rfl 46 rfl .u64 20 zero_point ?_; intro w3 A3 s3 b3; have q3_1 := A1.lt; replace A1 := A1.below b3; replace BB := below_then BB b3; have y3 := BB.size)
      | (with_reducible refine at_op (o := ⟨_, .store 46 (.tmp 3) _, _, _, _, _⟩) ?_; refine wpList_storeI rfl 46 _ _ rfl 20 info_point (w2.heap.size) rfl .u64 _ (pa) rfl (A3) (rfl) (l_pa) ?_; intro D4; replace A1 := A1.rowOther (B' := w2.heap.size) (by omega) ((pa).map (Value.int .u64)).toArray; replace BB := Below.setRow BB (g := w2.heap.size) (by omega) ((pa).map (Value.int .u64)).toArray; clear A3; have A3 := D4)
      | (go_at_call 36; first | ((with_reducible refine (H0 _ (hT.below BB)).mono ?_); rintro e w2 ⟨rfl, b2⟩; replace A1 := A1.below b2; replace BB := below_then BB b2; have z2 := BB.size)))
  go_ret
  exact ⟨rfl, BB⟩
set_option maxHeartbeats 2000000 in
theorem right_f (xa pa : List Int) (w : World) (hT : TabD w)
    (l_xa : xa.length = 32) (l_pa : pa.length = 20)
    (H0 : ∀ W, TabD W → Ret 36 #[aggI .u8 xa] (.tuple #[aggI .u64 pa, .bool false]) W) :
    Calls Tryd.prog 15 #[aggI .u8 xa] w fun e w' => e = .returned (.bool false) ∧ Below w.heap.size w w' := by
  go_enter Tryd.func15, Tryd.ntmps15
  go_wp2_with (first
      | (with_reducible refine at_n 1 ?_; refine wpList_boxI rfl 22 _ rfl .u8 xa rfl ?_; intro w1 A1 s1 b1; have BB := b1; have y1 := BB.size)
      | (with_reducible refine at_n 6 ?_; refine wpList_val' (fun R hR => Does.loadM rfl 22 _ rfl 32 _ und_a32 rfl info_a32 (w.heap.size) 0 rfl .u8 (xa) (A1) (by omega) (sl_all l_xa) hR) ?_)
      | (with_reducible refine at_n 3 ?_; refine wpList_allocI rfl 46 rfl .u64 20 zero_point ?_; intro w3 A3 s3 b3; have q3_1 := A1.lt; replace A1 := A1.below b3; replace BB := below_then BB b3; have y3 := BB.size)
      | (with_reducible refine at_op (o := ⟨_, .store 46 (.tmp 3) _, _, _, _, _⟩) ?_; refine wpList_storeI rfl 46 _ _ rfl 20 info_point (w2.heap.size) rfl .u64 _ (pa) rfl (A3) (rfl) (l_pa) ?_; intro D4; replace A1 := A1.rowOther (B' := w2.heap.size) (by omega) ((pa).map (Value.int .u64)).toArray; replace BB := Below.setRow BB (g := w2.heap.size) (by omega) ((pa).map (Value.int .u64)).toArray; clear A3; have A3 := D4)
      | (go_at_call 36; first | ((with_reducible refine (H0 _ (hT.below BB)).mono ?_); rintro e w2 ⟨rfl, b2⟩; replace A1 := A1.below b2; replace BB := below_then BB b2; have z2 := BB.size)))
  go_ret
  exact ⟨rfl, BB⟩
end Go.Proofs.YtelppapkffjmpaaDoor
end
section
namespace Go.Proofs.YtelppapkffjmpaaDoor
open Go.RowKit Go.Shelf
set_option linter.unusedVariables false
set_option maxRecDepth 8000

def z32 : List Int := List.replicate 32 0
theorem built_a32z : Tryd.prog.built 22 [] = some (z32.map (Value.int .u8)).toArray := by kernel_rfl
theorem z32_len : z32.length = 32 := rfl
theorem right_yes {b : List Int} (hb : Bytes b) (hl : b.length = 32) (h : IsPt b) (w : World) (hT : TabD w) : Calls Tryd.prog 15 #[aggI .u8 b] w fun e w' => e = .returned (.bool true) ∧ Below w.heap.size w w' := by
  obtain ⟨rs, hr, H⟩ := load_yes hb hl h
  exact right_t (hT := hT) (l_xa := hl) (l_pa := hr.len) (H0 := H)
theorem right_not {b : List Int} (hb : Bytes b) (hl : b.length = 32) (h : ¬ IsPt b) (w : World) (hT : TabD w) : Calls Tryd.prog 15 #[aggI .u8 b] w fun e w' => e = .returned (.bool false) ∧ Below w.heap.size w w' :=
  right_f (hT := hT) (l_xa := hl) (l_pa := rfl) (H0 := load_not hb hl h)
end Go.Proofs.YtelppapkffjmpaaDoor
end

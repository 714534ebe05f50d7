/- Layer 6 (address): right in one way; the text of an address; the reference's order. -/
import Derived.Test.YtibkkdbjmcongaaDoorAddrI
namespace Go.Proofs.YtibkkdbjmcongaaDoor
open Go.RowKit
set_option linter.unusedVariables false

def RightIs (f : FuncId) (m x : ByteArray) (b : Bool) : Prop := ∀ w, MaxC w → Calls Tryd.prog f #[.agg #[.string m, .string x]] w fun e w' => e = .returned (.bool b) ∧ Below w.heap.size w w'

set_option maxHeartbeats 1000000 in
theorem right_1 (m x p q : ByteArray) (c : Int)  (H : MakeIs 28 m x p q 1) : RightIs 30 m x false := by
  intro w hm
  unfold MakeIs at H
  go_enter Tryd.func30, Tryd.ntmps30
  go_wp2_with fail
  have A := Two.new w m x 35
  refine (H _ (hm.below ((Below.refl _ _).alloc (Nat.le_refl _) _))).mono ?_
  rintro e w1 ⟨rfl, hb1⟩
  replace A := A.below hb1
  have HB := below_then ((Below.refl _ _).alloc (Nat.le_refl _) _) hb1
  clear hb1 H
  have ⟨⟨a1, a2⟩, ⟨a3, a4⟩, a5⟩ := A
  go_wp2
  go_ret
  exact ⟨rfl, HB.alloc (by omega) _⟩

set_option maxHeartbeats 1000000 in
theorem right_2 (m x p q : ByteArray) (c : Int)  (H : MakeIs 28 m x p q 2) : RightIs 30 m x false := by
  intro w hm
  unfold MakeIs at H
  go_enter Tryd.func30, Tryd.ntmps30
  go_wp2_with fail
  have A := Two.new w m x 35
  refine (H _ (hm.below ((Below.refl _ _).alloc (Nat.le_refl _) _))).mono ?_
  rintro e w1 ⟨rfl, hb1⟩
  replace A := A.below hb1
  have HB := below_then ((Below.refl _ _).alloc (Nat.le_refl _) _) hb1
  clear hb1 H
  have ⟨⟨a1, a2⟩, ⟨a3, a4⟩, a5⟩ := A
  go_wp2
  go_ret
  exact ⟨rfl, HB.alloc (by omega) _⟩

set_option maxHeartbeats 1000000 in
theorem right_m (m x p q : ByteArray) (c : Int) (h : ¬ m.toList = p.toList) (H : MakeIs 28 m x p q 0) : RightIs 30 m x false := by
  intro w hm
  unfold MakeIs at H
  go_enter Tryd.func30, Tryd.ntmps30
  go_wp2_with fail
  have A := Two.new w m x 35
  refine (H _ (hm.below ((Below.refl _ _).alloc (Nat.le_refl _) _))).mono ?_
  rintro e w1 ⟨rfl, hb1⟩
  replace A := A.below hb1
  have HB := below_then ((Below.refl _ _).alloc (Nat.le_refl _) _) hb1
  clear hb1 H
  have ⟨⟨a1, a2⟩, ⟨a3, a4⟩, a5⟩ := A
  go_wp2
  go_ret
  exact ⟨rfl, HB.alloc (by omega) _⟩

set_option maxHeartbeats 1000000 in
theorem right_x (m x p q : ByteArray) (c : Int) (h : ¬ x.toList = q.toList) (H : MakeIs 28 m x m q 0) : RightIs 30 m x false := by
  intro w hm
  unfold MakeIs at H
  go_enter Tryd.func30, Tryd.ntmps30
  go_wp2_with fail
  have A := Two.new w m x 35
  refine (H _ (hm.below ((Below.refl _ _).alloc (Nat.le_refl _) _))).mono ?_
  rintro e w1 ⟨rfl, hb1⟩
  replace A := A.below hb1
  have HB := below_then ((Below.refl _ _).alloc (Nat.le_refl _) _) hb1
  clear hb1 H
  have ⟨⟨a1, a2⟩, ⟨a3, a4⟩, a5⟩ := A
  go_wp2
  go_ret
  exact ⟨rfl, HB.alloc (by omega) _⟩

set_option maxHeartbeats 1000000 in
theorem right_y (m x p q : ByteArray) (c : Int)  (H : MakeIs 28 m x m x 0) : RightIs 30 m x true := by
  intro w hm
  unfold MakeIs at H
  go_enter Tryd.func30, Tryd.ntmps30
  go_wp2_with fail
  have A := Two.new w m x 35
  refine (H _ (hm.below ((Below.refl _ _).alloc (Nat.le_refl _) _))).mono ?_
  rintro e w1 ⟨rfl, hb1⟩
  replace A := A.below hb1
  have HB := below_then ((Below.refl _ _).alloc (Nat.le_refl _) _) hb1
  clear hb1 H
  have ⟨⟨a1, a2⟩, ⟨a3, a4⟩, a5⟩ := A
  go_wp2
  go_ret
  exact ⟨rfl, HB.alloc (by omega) _⟩

set_option maxHeartbeats 1000000 in
theorem ref_right_1 (m x p q : ByteArray) (c : Int)  (H : MakeIs 29 m x p q 1) : RightIs 31 m x false := by
  intro w hm
  unfold MakeIs at H
  go_enter Tryd.func31, Tryd.ntmps31
  go_wp2_with fail
  have A := Two.new w m x 35
  refine (H _ (hm.below ((Below.refl _ _).alloc (Nat.le_refl _) _))).mono ?_
  rintro e w1 ⟨rfl, hb1⟩
  replace A := A.below hb1
  have HB := below_then ((Below.refl _ _).alloc (Nat.le_refl _) _) hb1
  clear hb1 H
  have ⟨⟨a1, a2⟩, ⟨a3, a4⟩, a5⟩ := A
  go_wp2
  go_ret
  exact ⟨rfl, HB.alloc (by omega) _⟩

set_option maxHeartbeats 1000000 in
theorem ref_right_2 (m x p q : ByteArray) (c : Int)  (H : MakeIs 29 m x p q 2) : RightIs 31 m x false := by
  intro w hm
  unfold MakeIs at H
  go_enter Tryd.func31, Tryd.ntmps31
  go_wp2_with fail
  have A := Two.new w m x 35
  refine (H _ (hm.below ((Below.refl _ _).alloc (Nat.le_refl _) _))).mono ?_
  rintro e w1 ⟨rfl, hb1⟩
  replace A := A.below hb1
  have HB := below_then ((Below.refl _ _).alloc (Nat.le_refl _) _) hb1
  clear hb1 H
  have ⟨⟨a1, a2⟩, ⟨a3, a4⟩, a5⟩ := A
  go_wp2
  go_ret
  exact ⟨rfl, HB.alloc (by omega) _⟩

set_option maxHeartbeats 1000000 in
theorem ref_right_m (m x p q : ByteArray) (c : Int) (h : ¬ m.toList = p.toList) (H : MakeIs 29 m x p q 0) : RightIs 31 m x false := by
  intro w hm
  unfold MakeIs at H
  go_enter Tryd.func31, Tryd.ntmps31
  go_wp2_with fail
  have A := Two.new w m x 35
  refine (H _ (hm.below ((Below.refl _ _).alloc (Nat.le_refl _) _))).mono ?_
  rintro e w1 ⟨rfl, hb1⟩
  replace A := A.below hb1
  have HB := below_then ((Below.refl _ _).alloc (Nat.le_refl _) _) hb1
  clear hb1 H
  have ⟨⟨a1, a2⟩, ⟨a3, a4⟩, a5⟩ := A
  go_wp2
  go_ret
  exact ⟨rfl, HB.alloc (by omega) _⟩

set_option maxHeartbeats 1000000 in
theorem ref_right_x (m x p q : ByteArray) (c : Int) (h : ¬ x.toList = q.toList) (H : MakeIs 29 m x m q 0) : RightIs 31 m x false := by
  intro w hm
  unfold MakeIs at H
  go_enter Tryd.func31, Tryd.ntmps31
  go_wp2_with fail
  have A := Two.new w m x 35
  refine (H _ (hm.below ((Below.refl _ _).alloc (Nat.le_refl _) _))).mono ?_
  rintro e w1 ⟨rfl, hb1⟩
  replace A := A.below hb1
  have HB := below_then ((Below.refl _ _).alloc (Nat.le_refl _) _) hb1
  clear hb1 H
  have ⟨⟨a1, a2⟩, ⟨a3, a4⟩, a5⟩ := A
  go_wp2
  go_ret
  exact ⟨rfl, HB.alloc (by omega) _⟩

set_option maxHeartbeats 1000000 in
theorem ref_right_y (m x p q : ByteArray) (c : Int)  (H : MakeIs 29 m x m x 0) : RightIs 31 m x true := by
  intro w hm
  unfold MakeIs at H
  go_enter Tryd.func31, Tryd.ntmps31
  go_wp2_with fail
  have A := Two.new w m x 35
  refine (H _ (hm.below ((Below.refl _ _).alloc (Nat.le_refl _) _))).mono ?_
  rintro e w1 ⟨rfl, hb1⟩
  replace A := A.below hb1
  have HB := below_then ((Below.refl _ _).alloc (Nat.le_refl _) _) hb1
  clear hb1 H
  have ⟨⟨a1, a2⟩, ⟨a3, a4⟩, a5⟩ := A
  go_wp2
  go_ret
  exact ⟨rfl, HB.alloc (by omega) _⟩

end Go.Proofs.YtibkkdbjmcongaaDoor
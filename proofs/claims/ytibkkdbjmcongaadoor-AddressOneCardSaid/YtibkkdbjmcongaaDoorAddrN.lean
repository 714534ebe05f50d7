/- Layer 6 (address): law AddressOne. -/
import Derived.Test.YtibkkdbjmcongaaDoorAddrM
namespace Go.Proofs.YtibkkdbjmcongaaDoor
open Go.RowKit
set_option linter.unusedVariables false

set_option maxHeartbeats 1000000 in
theorem one_long (m s : ByteArray) (w : World) (hm : MaxC w) (s1 : s.size ≤ maxLen) (h : 2000 < s.size) :
    Calls Tryd.prog 9 #[.string m, .string s] w fun e w' => e = .returned (.bool true) ∧ Below w.heap.size w w' := by
  unfold maxLen at s1
  go_enter Tryd.func9, Tryd.ntmps9
  go_wp2_with fail
  refine (alive06 w hm).mono ?_
  rintro e w1 ⟨rfl, hb1⟩
  go_wp2
  go_ret
  exact ⟨rfl, hb1⟩

set_option maxHeartbeats 1000000 in
theorem one_err1 (m s : ByteArray) (w : World) (hm : MaxC w) (hs : s.size ≤ 2000) (H1 : MakeIs 28 m s ⟨#[]⟩ ⟨#[]⟩ 1) :
    Calls Tryd.prog 9 #[.string m, .string s] w fun e w' => e = .returned (.bool true) ∧ Below w.heap.size w w' := by
  unfold MakeIs at H1
  go_enter Tryd.func9, Tryd.ntmps9
  go_wp2_with fail
  refine (alive06 w hm).mono ?_
  rintro e w1 ⟨rfl, hb1⟩
  go_wp2_with fail
  refine (H1 _ (hm.below hb1)).mono ?_
  rintro e w2 ⟨rfl, hb2⟩
  have HB := below_then hb1 hb2
  clear hb1 hb2 H1
  go_wp2
  go_ret
  exact ⟨rfl, HB.alloc HB.size _⟩

set_option maxHeartbeats 1000000 in
theorem one_err2 (m s : ByteArray) (w : World) (hm : MaxC w) (hs : s.size ≤ 2000) (H1 : MakeIs 28 m s ⟨#[]⟩ ⟨#[]⟩ 2) :
    Calls Tryd.prog 9 #[.string m, .string s] w fun e w' => e = .returned (.bool true) ∧ Below w.heap.size w w' := by
  unfold MakeIs at H1
  go_enter Tryd.func9, Tryd.ntmps9
  go_wp2_with fail
  refine (alive06 w hm).mono ?_
  rintro e w1 ⟨rfl, hb1⟩
  go_wp2_with fail
  refine (H1 _ (hm.below hb1)).mono ?_
  rintro e w2 ⟨rfl, hb2⟩
  have HB := below_then hb1 hb2
  clear hb1 hb2 H1
  go_wp2
  go_ret
  exact ⟨rfl, HB.alloc HB.size _⟩

set_option maxHeartbeats 2000000 in
theorem one_mail (s F L : ByteArray) (w : World) (hm : MaxC w) (hs : s.size ≤ 2000) (hL : L.size ≤ 2000) (H1 : MakeIs 28 ⟨#[101, 109, 97, 105, 108]⟩ s ⟨#[101, 109, 97, 105, 108]⟩ F 0) (H2 : MakeIs 28 ⟨#[101, 109, 97, 105, 108]⟩ F ⟨#[101, 109, 97, 105, 108]⟩ F 0)
    (R : RightIs 30 ⟨#[101, 109, 97, 105, 108]⟩ F true) (LL : ∀ w, Calls Tryd.prog 35 #[.string s] w fun e w' => e = .returned (.string L) ∧ Below w.heap.size w w')
    (H3 : MakeIs 28 ⟨#[101, 109, 97, 105, 108]⟩ (⟨#[32, 32]⟩ ++ L ++ ⟨#[32]⟩) ⟨#[101, 109, 97, 105, 108]⟩ F 0) :
    Calls Tryd.prog 9 #[.string ⟨#[101, 109, 97, 105, 108]⟩, .string s] w fun e w' => e = .returned (.bool true) ∧ Below w.heap.size w w' := by
  unfold MakeIs at H1 H2 H3
  unfold RightIs at R
  go_enter Tryd.func9, Tryd.ntmps9
  go_wp2_with fail
  refine (alive06 w hm).mono ?_
  rintro e w1 ⟨rfl, hb1⟩
  go_wp2_with fail
  refine (H1 _ (hm.below hb1)).mono ?_
  rintro e w2 ⟨rfl, hb2⟩
  have HB := below_then hb1 hb2
  clear hb1 hb2 H1
  have al := (Below.refl w2.heap.size w2).alloc (Nat.le_refl _) (.cells #[.string ⟨#[101, 109, 97, 105, 108]⟩, .string F] 35)
  have Nw2 := Two.new w2 ⟨#[101, 109, 97, 105, 108]⟩ F 35
  replace HB := below_then HB al
  clear al
  have ⟨⟨Nw21, Nw22⟩, ⟨Nw23, Nw24⟩, Nw25⟩ := Nw2
  go_wp2_with fail
  refine (H2 _ (hm.below HB)).mono ?_
  rintro e w3 ⟨rfl, hb⟩
  replace Nw2 := Nw2.below hb
  replace HB := below_then HB hb
  clear hb Nw21 Nw22 Nw23 Nw24 Nw25
  have al := (Below.refl w3.heap.size w3).alloc (Nat.le_refl _) (.cells #[.string ⟨#[101, 109, 97, 105, 108]⟩, .string F] 35)
  replace Nw2 := Nw2.below al
  have Nw3 := Two.new w3 ⟨#[101, 109, 97, 105, 108]⟩ F 35
  replace HB := below_then HB al
  clear al
  have ⟨⟨Nw21, Nw22⟩, ⟨Nw23, Nw24⟩, Nw25⟩ := Nw2
  have ⟨⟨Nw31, Nw32⟩, ⟨Nw33, Nw34⟩, Nw35⟩ := Nw3
  go_wp2_with fail
  refine (R _ (hm.below HB)).mono ?_
  rintro e w4 ⟨rfl, hb⟩
  replace Nw2 := Nw2.below hb
  replace Nw3 := Nw3.below hb
  replace HB := below_then HB hb
  clear hb Nw21 Nw22 Nw23 Nw24 Nw25 Nw31 Nw32 Nw33 Nw34 Nw35
  have ⟨⟨Nw21, Nw22⟩, ⟨Nw23, Nw24⟩, Nw25⟩ := Nw2
  have ⟨⟨Nw31, Nw32⟩, ⟨Nw33, Nw34⟩, Nw35⟩ := Nw3
  go_wp2_with fail
  refine (LL _).mono ?_
  rintro e w5 ⟨rfl, hb⟩
  replace Nw2 := Nw2.below hb
  replace Nw3 := Nw3.below hb
  replace HB := below_then HB hb
  clear hb Nw21 Nw22 Nw23 Nw24 Nw25 Nw31 Nw32 Nw33 Nw34 Nw35
  have ⟨⟨Nw21, Nw22⟩, ⟨Nw23, Nw24⟩, Nw25⟩ := Nw2
  have ⟨⟨Nw31, Nw32⟩, ⟨Nw33, Nw34⟩, Nw35⟩ := Nw3
  go_wp2_with fail
  refine (H3 _ (hm.below HB)).mono ?_
  rintro e w6 ⟨rfl, hb⟩
  replace Nw2 := Nw2.below hb
  replace Nw3 := Nw3.below hb
  replace HB := below_then HB hb
  clear hb Nw21 Nw22 Nw23 Nw24 Nw25 Nw31 Nw32 Nw33 Nw34 Nw35
  have al := (Below.refl w6.heap.size w6).alloc (Nat.le_refl _) (.cells #[.string ⟨#[101, 109, 97, 105, 108]⟩, .string F] 35)
  replace Nw2 := Nw2.below al
  replace Nw3 := Nw3.below al
  have Nw6 := Two.new w6 ⟨#[101, 109, 97, 105, 108]⟩ F 35
  replace HB := below_then HB al
  clear al
  have ⟨⟨Nw21, Nw22⟩, ⟨Nw23, Nw24⟩, Nw25⟩ := Nw2
  have ⟨⟨Nw31, Nw32⟩, ⟨Nw33, Nw34⟩, Nw35⟩ := Nw3
  have ⟨⟨Nw61, Nw62⟩, ⟨Nw63, Nw64⟩, Nw65⟩ := Nw6
  go_wp2
  go_ret
  exact ⟨rfl, HB⟩
end Go.Proofs.YtibkkdbjmcongaaDoor

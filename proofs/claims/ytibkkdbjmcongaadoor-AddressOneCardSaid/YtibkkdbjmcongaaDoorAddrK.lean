/- Layer 6 (address): the text of an address; the reference's order; both are alike. -/
import Derived.Test.YtibkkdbjmcongaaDoorAddrJ
namespace Go.Proofs.YtibkkdbjmcongaaDoor
open Go.RowKit
set_option linter.unusedVariables false

theorem right_alike (m x : ByteArray) (hx : x.size ≤ 1000000) : ∃ b, RightIs 30 m x b ∧ RightIs 31 m x b := by
  obtain ⟨p, q, c, H, G, h⟩ := make_alike m x hx
  rcases h with rfl | rfl | rfl
  · by_cases h1 : m = p
    · subst h1
      by_cases h2 : x = q
      · subst h2; exact ⟨true, right_y m x m x 0 H, ref_right_y m x m x 0 G⟩
      · have h2' : ¬ x.toList = q.toList := fun e => h2 (toList_inj e)
        exact ⟨false, right_x m x m q 0 h2' H, ref_right_x m x m q 0 h2' G⟩
    · have h1' : ¬ m.toList = p.toList := fun e => h1 (toList_inj e)
      exact ⟨false, right_m m x p q 0 h1' H, ref_right_m m x p q 0 h1' G⟩
  · exact ⟨false, right_1 m x p q 0 H, ref_right_1 m x p q 0 G⟩
  · exact ⟨false, right_2 m x p q 0 H, ref_right_2 m x p q 0 G⟩
set_option maxHeartbeats 1000000 in
theorem ref_less_any (m x n y : ByteArray) (w : World) :
    Calls Tryd.prog 34 #[.agg #[.string m, .string x], .agg #[.string n, .string y]] w fun e w' => e = .returned (.bool (lessS m x n y)) ∧ Below w.heap.size w w' := by
  by_cases h : m = n
  · have hb := str_eq_yes h
    have hi : Op.bytesLess m.toList n.toList = false := by rw [h]; exact bl_irrefl _
    have HF := Lib.hid (show lessS m x n y = ltB x y by rw [lessS, if_pos h])
    clear h
    go_enter Tryd.func34, Tryd.ntmps34
    go_wp2
    go_ret
    exact ⟨by rw [HF.out]; rfl, ((Below.refl _ _).alloc (Nat.le_refl _) _).alloc (by simp) _⟩
  · have hb := str_eq_no h
    have HF := Lib.hid (show lessS m x n y = ltB m n by rw [lessS, if_neg h])
    clear h
    cases hi : Op.bytesLess m.toList n.toList
    · go_enter Tryd.func34, Tryd.ntmps34
      go_wp2
      go_ret
      exact ⟨by rw [HF.out, ltB, hi]; rfl, ((Below.refl _ _).alloc (Nat.le_refl _) _).alloc (by simp) _⟩
    · go_enter Tryd.func34, Tryd.ntmps34
      go_wp2
      go_ret
      exact ⟨by rw [HF.out, ltB, hi]; rfl, ((Below.refl _ _).alloc (Nat.le_refl _) _).alloc (by simp) _⟩
set_option maxHeartbeats 1000000 in
theorem text_any (m x : ByteArray) (w : World) (hm : m.size ≤ 140737488355328) (hx : x.size ≤ 2000) :
    Calls Tryd.prog 32 #[.agg #[.string m, .string x]] w fun e w' => e = .returned (.string (m ++ ⟨#[32]⟩ ++ x)) ∧ Below w.heap.size w w' := by
  go_enter Tryd.func32, Tryd.ntmps32
  go_wp2
  go_ret
  exact ⟨rfl, (Below.refl _ _).alloc (Nat.le_refl _) _⟩
end Go.Proofs.YtibkkdbjmcongaaDoor

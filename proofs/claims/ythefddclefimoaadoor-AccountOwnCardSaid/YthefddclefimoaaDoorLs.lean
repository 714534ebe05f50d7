/- The order of texts. No program stands here. -/
import Derived.Test.YthefddclefimoaaDoorRt
namespace Go.Proofs.YthefddclefimoaaDoor
open Go.RowKit
set_option linter.unusedVariables false
theorem bl_irrefl : ∀ x : List UInt8, Op.bytesLess x x = false
  | [] => rfl
  | a :: x => by
    have h : ¬ a < a := by simp
    rw [Op.bytesLess, bl_irrefl x, decide_eq_false h]; simp
theorem u8_tri (a b : UInt8) : a < b ∨ a = b ∨ b < a := by
  rcases Nat.lt_trichotomy a.toNat b.toNat with h | h | h
  · exact .inl (UInt8.lt_iff_toNat_lt.2 h)
  · exact .inr (.inl (UInt8.toNat_inj.1 h))
  · exact .inr (.inr (UInt8.lt_iff_toNat_lt.2 h))
theorem u8_no {a b : UInt8} (h : a < b) : ¬ b < a ∧ a ≠ b := by
  have := UInt8.lt_iff_toNat_lt.1 h
  constructor
  · intro g; have := UInt8.lt_iff_toNat_lt.1 g; omega
  · intro g; rw [g] at this; omega
theorem bl_tri : ∀ x y : List UInt8, (Op.bytesLess x y = true ∧ Op.bytesLess y x = false ∧ x ≠ y) ∨ (Op.bytesLess x y = false ∧ Op.bytesLess y x = true ∧ x ≠ y) ∨ x = y
  | [], [] => .inr (.inr rfl)
  | [], _ :: _ => .inl ⟨rfl, rfl, by simp⟩
  | _ :: _, [] => .inr (.inl ⟨rfl, rfl, by simp⟩)
  | a :: x, b :: y => by
    rcases u8_tri a b with h | h | h
    · obtain ⟨h1, h2⟩ := u8_no h
      exact .inl ⟨by simp [Op.bytesLess, h], by simp [Op.bytesLess, h1]; exact fun e => absurd e.symm h2, fun e => h2 (List.cons.inj e).1⟩
    · subst h
      have h0 : ¬ a < a := by simp
      rcases bl_tri x y with ⟨p, q, r⟩ | ⟨p, q, r⟩ | r
      · exact .inl ⟨by simp [Op.bytesLess, p], by simp [Op.bytesLess, h0, q], fun e => r (List.cons.inj e).2⟩
      · exact .inr (.inl ⟨by simp [Op.bytesLess, h0, p], by simp [Op.bytesLess, q], fun e => r (List.cons.inj e).2⟩)
      · exact .inr (.inr (by rw [r]))
    · obtain ⟨h1, h2⟩ := u8_no h
      exact .inr (.inl ⟨by simp [Op.bytesLess, h1]; exact fun e => absurd e.symm h2, by simp [Op.bytesLess, h], fun e => h2 (List.cons.inj e).1.symm⟩)
theorem bl_trans : ∀ x y z : List UInt8, Op.bytesLess x y = true → Op.bytesLess y z = true → Op.bytesLess x z = true
  | [], [], _, h, _ => by simp [Op.bytesLess] at h
  | _ :: _, [], _, h, _ => by simp [Op.bytesLess] at h
  | [], _ :: _, [], _, g => by simp [Op.bytesLess] at g
  | _ :: _, _ :: _, [], _, g => by simp [Op.bytesLess] at g
  | [], _ :: _, _ :: _, _, _ => rfl
  | a :: x, b :: y, c :: z, h, g => by
    have h' : a < b ∨ (a = b ∧ Op.bytesLess x y = true) := by simpa [Op.bytesLess] using h
    have g' : b < c ∨ (b = c ∧ Op.bytesLess y z = true) := by simpa [Op.bytesLess] using g
    have : a < c ∨ (a = c ∧ Op.bytesLess x z = true) := by
      rcases h' with h' | ⟨rfl, h'⟩
      · rcases g' with g' | ⟨rfl, g'⟩
        · exact .inl (UInt8.lt_iff_toNat_lt.2 (by have := UInt8.lt_iff_toNat_lt.1 h'; have := UInt8.lt_iff_toNat_lt.1 g'; omega))
        · exact .inl h'
      · rcases g' with g' | ⟨rfl, g'⟩
        · exact .inl g'
        · exact .inr ⟨rfl, bl_trans x y z h' g'⟩
    simpa [Op.bytesLess] using this
theorem toList_inj {a b : ByteArray} (h : a.toList = b.toList) : a = b := by
  rw [ByteArray.toList_eq, ByteArray.toList_eq] at h
  exact ByteArray.ext (Array.toList_inj.mp h)
theorem sless_irrefl (a : ByteArray) : sless a a = false := bl_irrefl _
theorem sless_trans (a b c : ByteArray) (h : sless a b = true) (g : sless b c = true) : sless a c = true := bl_trans _ _ _ h g
theorem sless_tri (a b : ByteArray) : (sless a b = true ∧ sless b a = false ∧ a ≠ b) ∨ (sless a b = false ∧ sless b a = true ∧ a ≠ b) ∨ a = b := by
  rcases bl_tri a.toList b.toList with ⟨p, q, r⟩ | ⟨p, q, r⟩ | r
  · exact .inl ⟨p, q, fun e => r (by rw [e])⟩
  · exact .inr (.inl ⟨p, q, fun e => r (by rw [e])⟩)
  · exact .inr (.inr (toList_inj r))
theorem sless_ne {a b : ByteArray} (h : sless a b = true) : a ≠ b := fun e => by rw [e, sless_irrefl] at h; cases h
theorem sless_asymm {a b : ByteArray} (h : sless a b = true) : sless b a = false := by
  rcases sless_tri a b with ⟨_, q, _⟩ | ⟨p, _, _⟩ | rfl
  · exact q
  · rw [p] at h; cases h
  · rw [sless_irrefl] at h; cases h
end Go.Proofs.YthefddclefimoaaDoor

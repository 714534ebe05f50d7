/- Package utf's First and its reference's: the rune that bytes begin with, by what the bytes are. -/
import Derived.Test.YticeogdagnogpaaUtfPure
namespace Go.Proofs.Yticeogdagnogpaa
open Go.RowKit
set_option linter.unusedVariables false

def contB (c : Int) : Bool := decide (128 ≤ c) && decide (c < 192)
def okS (r : Int) (n : Nat) : Option (Int × Nat) := if isRuneB r && widthI r == n then some (r, n) else none
/-- The rune that bytes begin with, and how many bytes it has. -/
def fstS (l : List Int) : Option (Int × Nat) :=
  if l.length = 0 then none
  else if at0 l 0 < 128 then some (at0 l 0, 1)
  else if at0 l 0 < 192 then none
  else if at0 l 0 < 224 then (if 2 ≤ l.length && contB (at0 l 1) then okS ((at0 l 0 - 192) * 64 + (at0 l 1 - 128)) 2 else none)
  else if at0 l 0 < 240 then (if 3 ≤ l.length && (contB (at0 l 1) && contB (at0 l 2)) then okS (((at0 l 0 - 224) * 64 + (at0 l 1 - 128)) * 64 + (at0 l 2 - 128)) 3 else none)
  else if at0 l 0 < 248 then (if 4 ≤ l.length && (contB (at0 l 1) && (contB (at0 l 2) && contB (at0 l 3))) then okS ((((at0 l 0 - 240) * 64 + (at0 l 1 - 128)) * 64 + (at0 l 2 - 128)) * 64 + (at0 l 3 - 128)) 4 else none)
  else none
def firstV : Option (Int × Nat) → Value
  | some (r, n) => .tuple #[.int .i32 r, .int .i64 n, .int .i64 0]
  | none => .tuple #[.int .i32 0, .int .i64 0, .int .i64 2]

theorem okS_yes {r : Int} {n : Nat} (h : 0 ≤ r ∧ r ≤ 1114111 ∧ (r < 55296 ∨ 57343 < r)) (hw : widthI r = n) : okS r n = some (r, n) := by
  obtain ⟨a, b, c⟩ := h
  rw [okS, if_pos]
  simp [isRuneB, hw, a, b, c]
theorem okS_no {r : Int} {n : Nat} (h : ¬ (0 ≤ r ∧ r ≤ 1114111 ∧ (r < 55296 ∨ 57343 < r)) ∨ widthI r ≠ n) : okS r n = none := by
  rw [okS, if_neg]
  intro hc
  simp [isRuneB] at hc
  omega
theorem mask192 (x : Int) (h0 : 0 ≤ x) (h1 : x ≤ 255) : (bits BinOp.and IntKind.u8 x 192 != 128) = !contB x := by
  have key : ∀ n : Fin 256, (bits BinOp.and IntKind.u8 (n.val : Int) 192 != 128) = !contB (n.val : Int) := by decide +kernel
  have := key ⟨x.toNat, by omega⟩
  simpa [Int.toNat_of_nonneg h0] using this
theorem mask_yes {x : Int} (h0 : 0 ≤ x) (h1 : x ≤ 255) (h : contB x = true) : (bits BinOp.and IntKind.u8 x 192 != 128) = false := by rw [mask192 x h0 h1, h]; rfl
theorem mask_no {x : Int} (h0 : 0 ≤ x) (h1 : x ≤ 255) (h : contB x = false) : (bits BinOp.and IntKind.u8 x 192 != 128) = true := by rw [mask192 x h0 h1, h]; rfl
theorem contB_iff {x : Int} : contB x = true ↔ 128 ≤ x ∧ x < 192 := by simp [contB]
theorem firstV_eq {r r' : Int} {n : Nat} (h : r = r') : Ending.returned (.tuple #[.int .i32 r, .int .i64 n, .int .i64 0]) = .returned (firstV (some (r', n))) := by subst h; rfl
theorem beq_no {a b : Int} (h : a ≠ b) : (a == b) = false := beq_eq_false_iff_ne.2 h
theorem beq_yes {a b : Int} (h : a = b) : (a == b) = true := beq_iff_eq.2 h

set_option maxHeartbeats 2000000 in
theorem first_any (v : Value) (l : List Int) (w : World) (h : RdI .u8 w v l) (hb : Bytes l) :
    Calls Try.prog 18 #[v] w fun e w' => e = .returned (firstV (fstS l)) ∧ Below w.heap.size w w' := by
  obtain ⟨a, ca, rfl, hla, hma, ha, -⟩ := h
  unfold maxLen at hma
  by_cases h0 : l.length = 0
  · have hne : ((l.length : Int) == 0) = true := beq_yes (by omega)
    have HF := Lib.hid (show fstS l = none by simp [fstS, h0])
    clear ha h0
    go_enter Try.func18, Try.ntmps18
    go_wp2
    go_ret3
    exact ⟨by rw [HF.out]; rfl, Below.refl _ _⟩
  have hne : ((l.length : Int) == 0) = false := beq_no (by omega)
  obtain ⟨x, o, rfl, hc⟩ := ha 0 (by omega)
  rw [Nat.add_zero] at hc
  obtain ⟨hz1, hz2⟩ := hb.at 0
  have hpos : 0 < l.length := by omega
  have hcell : ∀ k, k < l.length → w.cell? ⟨x, o + k, none⟩ = some (.int .u8 (at0 l k)) := fun k hk => by
    obtain ⟨x', o', e, h⟩ := ha k hk; cases e; exact h
  have HC := Lib.hid hcell; clear hcell ha
  by_cases c1 : at0 l 0 < 128
  · have HF := Lib.hid (show fstS l = some (at0 l 0, 1) by rw [fstS, if_neg h0, if_pos c1])
    have hr : leadR (at0 l 0) = at0 l 0 := by unfold leadR; omega
    have hn : leadN (at0 l 0) = 1 := by unfold leadN; omega
    go_enter Try.func18, Try.ntmps18
    go_wp2_with (go_at_call 41; refine (lead_any _ _ (by assumption) (by assumption)).mono ?_; rintro e w' ⟨rfl, rfl⟩)
    go_rounds 1
    all_goals go_ret3
    all_goals refine ⟨?_, Below.refl _ _⟩
    all_goals rw [HF.out]
    all_goals rfl
  by_cases c2 : at0 l 0 < 192
  · have HF := Lib.hid (show fstS l = none by rw [fstS, if_neg h0, if_neg c1, if_pos c2])
    have hr : leadR (at0 l 0) = 0 := by unfold leadR; omega
    have hn : leadN (at0 l 0) = 0 := by unfold leadN; omega
    go_enter Try.func18, Try.ntmps18
    go_wp2_with (go_at_call 41; refine (lead_any _ _ (by assumption) (by assumption)).mono ?_; rintro e w' ⟨rfl, rfl⟩)
    all_goals go_ret3
    all_goals refine ⟨?_, Below.refl _ _⟩
    all_goals rw [HF.out]
    all_goals rfl
  by_cases c3 : at0 l 0 < 224
  · have hr : leadR (at0 l 0) = at0 l 0 - 192 := by unfold leadR; omega
    have hn : leadN (at0 l 0) = 2 := by unfold leadN; omega
    by_cases hl : 2 ≤ l.length
    · have HL := Lib.hid hl
      have d1 := HC.out 1 (by omega)
      obtain ⟨e1, f1⟩ := hb.at 1
      have lt1 : 1 < l.length := by omega
      by_cases q1 : contB (at0 l 1) = true
      rotate_left
      · have q1' : contB (at0 l 1) = false := by simpa using q1
        have HF := Lib.hid (show fstS l = none by rw [fstS, if_neg h0, if_neg c1, if_neg c2, if_pos c3]; simp [q1'])
        have m1 := mask_no e1 f1 q1'
        have Q := Lib.hid q1'; clear q1 q1'
        go_enter Try.func18, Try.ntmps18
        go_wp2_with (go_at_call 41; refine (lead_any _ _ (by assumption) (by assumption)).mono ?_; rintro e w' ⟨rfl, rfl⟩)
        go_rounds 2
        all_goals go_ret3
        all_goals refine ⟨?_, Below.refl _ _⟩
        all_goals rw [HF.out]
        all_goals rfl
      have m1 := mask_yes e1 f1 q1
      obtain ⟨g1, i1⟩ := contB_iff.1 q1
      have x1 : at0 l 1 % 64 = at0 l 1 - 128 := by omega
      have HF := Lib.hid (show fstS l = okS ((at0 l 0 - 192) * 64 + (at0 l 1 - 128)) 2 by rw [fstS, if_neg h0, if_neg c1, if_neg c2, if_pos c3]; simp [hl, q1])
      clear q1
      go_enter Try.func18, Try.ntmps18
      go_wp2_with (go_at_call 41; refine (lead_any _ _ (by assumption) (by assumption)).mono ?_; rintro e w' ⟨rfl, rfl⟩)
      go_rounds 2
      all_goals go_ret3
      all_goals refine ⟨?_, Below.refl _ _⟩
      all_goals first
        | (rw [HF.out, okS_yes (by omega) (by unfold widthI; omega)]; exact firstV_eq (by omega))
        | (rw [HF.out, okS_no (by unfold widthI; omega)]; rfl)
        | (exfalso; simp only [Bool.not_eq_true', decide_eq_false_iff_not] at *; omega)
    · have HF := Lib.hid (show fstS l = none by rw [fstS, if_neg h0, if_neg c1, if_neg c2, if_pos c3]; simp [hl])
      go_enter Try.func18, Try.ntmps18
      go_wp2_with (go_at_call 41; refine (lead_any _ _ (by assumption) (by assumption)).mono ?_; rintro e w' ⟨rfl, rfl⟩)
      all_goals go_ret3
      all_goals refine ⟨?_, Below.refl _ _⟩
      all_goals rw [HF.out]
      all_goals rfl
  by_cases c4 : at0 l 0 < 240
  · have hr : leadR (at0 l 0) = at0 l 0 - 224 := by unfold leadR; omega
    have hn : leadN (at0 l 0) = 3 := by unfold leadN; omega
    by_cases hl : 3 ≤ l.length
    · have HL := Lib.hid hl
      have d1 := HC.out 1 (by omega)
      obtain ⟨e1, f1⟩ := hb.at 1
      have lt1 : 1 < l.length := by omega
      have d2 := HC.out 2 (by omega)
      obtain ⟨e2, f2⟩ := hb.at 2
      have lt2 : 2 < l.length := by omega
      by_cases q1 : contB (at0 l 1) = true
      rotate_left
      · have q1' : contB (at0 l 1) = false := by simpa using q1
        have HF := Lib.hid (show fstS l = none by rw [fstS, if_neg h0, if_neg c1, if_neg c2, if_neg c3, if_pos c4]; simp [q1'])
        have m1 := mask_no e1 f1 q1'
        have Q := Lib.hid q1'; clear q1 q1'
        go_enter Try.func18, Try.ntmps18
        go_wp2_with (go_at_call 41; refine (lead_any _ _ (by assumption) (by assumption)).mono ?_; rintro e w' ⟨rfl, rfl⟩)
        go_rounds 3
        all_goals go_ret3
        all_goals refine ⟨?_, Below.refl _ _⟩
        all_goals rw [HF.out]
        all_goals rfl
      have m1 := mask_yes e1 f1 q1
      obtain ⟨g1, i1⟩ := contB_iff.1 q1
      have x1 : at0 l 1 % 64 = at0 l 1 - 128 := by omega
      by_cases q2 : contB (at0 l 2) = true
      rotate_left
      · have q2' : contB (at0 l 2) = false := by simpa using q2
        have HF := Lib.hid (show fstS l = none by rw [fstS, if_neg h0, if_neg c1, if_neg c2, if_neg c3, if_pos c4]; simp [q1, q2'])
        have m2 := mask_no e2 f2 q2'
        have Q := Lib.hid q2'; clear q2 q2'
        go_enter Try.func18, Try.ntmps18
        go_wp2_with (go_at_call 41; refine (lead_any _ _ (by assumption) (by assumption)).mono ?_; rintro e w' ⟨rfl, rfl⟩)
        go_rounds 3
        all_goals go_ret3
        all_goals refine ⟨?_, Below.refl _ _⟩
        all_goals rw [HF.out]
        all_goals rfl
      have m2 := mask_yes e2 f2 q2
      obtain ⟨g2, i2⟩ := contB_iff.1 q2
      have x2 : at0 l 2 % 64 = at0 l 2 - 128 := by omega
      have HF := Lib.hid (show fstS l = okS (((at0 l 0 - 224) * 64 + (at0 l 1 - 128)) * 64 + (at0 l 2 - 128)) 3 by rw [fstS, if_neg h0, if_neg c1, if_neg c2, if_neg c3, if_pos c4]; simp [hl, q1, q2])
      clear q1 q2
      go_enter Try.func18, Try.ntmps18
      go_wp2_with (go_at_call 41; refine (lead_any _ _ (by assumption) (by assumption)).mono ?_; rintro e w' ⟨rfl, rfl⟩)
      go_rounds 3
      all_goals go_ret3
      all_goals refine ⟨?_, Below.refl _ _⟩
      all_goals first
        | (rw [HF.out, okS_yes (by omega) (by unfold widthI; omega)]; exact firstV_eq (by omega))
        | (rw [HF.out, okS_no (by unfold widthI; omega)]; rfl)
        | (exfalso; simp only [Bool.not_eq_true', decide_eq_false_iff_not] at *; omega)
    · have HF := Lib.hid (show fstS l = none by rw [fstS, if_neg h0, if_neg c1, if_neg c2, if_neg c3, if_pos c4]; simp [hl])
      go_enter Try.func18, Try.ntmps18
      go_wp2_with (go_at_call 41; refine (lead_any _ _ (by assumption) (by assumption)).mono ?_; rintro e w' ⟨rfl, rfl⟩)
      all_goals go_ret3
      all_goals refine ⟨?_, Below.refl _ _⟩
      all_goals rw [HF.out]
      all_goals rfl
  by_cases c5 : at0 l 0 < 248
  · have hr : leadR (at0 l 0) = at0 l 0 - 240 := by unfold leadR; omega
    have hn : leadN (at0 l 0) = 4 := by unfold leadN; omega
    by_cases hl : 4 ≤ l.length
    · have HL := Lib.hid hl
      have d1 := HC.out 1 (by omega)
      obtain ⟨e1, f1⟩ := hb.at 1
      have lt1 : 1 < l.length := by omega
      have d2 := HC.out 2 (by omega)
      obtain ⟨e2, f2⟩ := hb.at 2
      have lt2 : 2 < l.length := by omega
      have d3 := HC.out 3 (by omega)
      obtain ⟨e3, f3⟩ := hb.at 3
      have lt3 : 3 < l.length := by omega
      by_cases q1 : contB (at0 l 1) = true
      rotate_left
      · have q1' : contB (at0 l 1) = false := by simpa using q1
        have HF := Lib.hid (show fstS l = none by rw [fstS, if_neg h0, if_neg c1, if_neg c2, if_neg c3, if_neg c4, if_pos c5]; simp [q1'])
        have m1 := mask_no e1 f1 q1'
        have Q := Lib.hid q1'; clear q1 q1'
        go_enter Try.func18, Try.ntmps18
        go_wp2_with (go_at_call 41; refine (lead_any _ _ (by assumption) (by assumption)).mono ?_; rintro e w' ⟨rfl, rfl⟩)
        go_rounds 4
        all_goals go_ret3
        all_goals refine ⟨?_, Below.refl _ _⟩
        all_goals rw [HF.out]
        all_goals rfl
      have m1 := mask_yes e1 f1 q1
      obtain ⟨g1, i1⟩ := contB_iff.1 q1
      have x1 : at0 l 1 % 64 = at0 l 1 - 128 := by omega
      by_cases q2 : contB (at0 l 2) = true
      rotate_left
      · have q2' : contB (at0 l 2) = false := by simpa using q2
        have HF := Lib.hid (show fstS l = none by rw [fstS, if_neg h0, if_neg c1, if_neg c2, if_neg c3, if_neg c4, if_pos c5]; simp [q1, q2'])
        have m2 := mask_no e2 f2 q2'
        have Q := Lib.hid q2'; clear q2 q2'
        go_enter Try.func18, Try.ntmps18
        go_wp2_with (go_at_call 41; refine (lead_any _ _ (by assumption) (by assumption)).mono ?_; rintro e w' ⟨rfl, rfl⟩)
        go_rounds 4
        all_goals go_ret3
        all_goals refine ⟨?_, Below.refl _ _⟩
        all_goals rw [HF.out]
        all_goals rfl
      have m2 := mask_yes e2 f2 q2
      obtain ⟨g2, i2⟩ := contB_iff.1 q2
      have x2 : at0 l 2 % 64 = at0 l 2 - 128 := by omega
      by_cases q3 : contB (at0 l 3) = true
      rotate_left
      · have q3' : contB (at0 l 3) = false := by simpa using q3
        have HF := Lib.hid (show fstS l = none by rw [fstS, if_neg h0, if_neg c1, if_neg c2, if_neg c3, if_neg c4, if_pos c5]; simp [q1, q2, q3'])
        have m3 := mask_no e3 f3 q3'
        have Q := Lib.hid q3'; clear q3 q3'
        go_enter Try.func18, Try.ntmps18
        go_wp2_with (go_at_call 41; refine (lead_any _ _ (by assumption) (by assumption)).mono ?_; rintro e w' ⟨rfl, rfl⟩)
        go_rounds 4
        all_goals go_ret3
        all_goals refine ⟨?_, Below.refl _ _⟩
        all_goals rw [HF.out]
        all_goals rfl
      have m3 := mask_yes e3 f3 q3
      obtain ⟨g3, i3⟩ := contB_iff.1 q3
      have x3 : at0 l 3 % 64 = at0 l 3 - 128 := by omega
      have HF := Lib.hid (show fstS l = okS ((((at0 l 0 - 240) * 64 + (at0 l 1 - 128)) * 64 + (at0 l 2 - 128)) * 64 + (at0 l 3 - 128)) 4 by rw [fstS, if_neg h0, if_neg c1, if_neg c2, if_neg c3, if_neg c4, if_pos c5]; simp [hl, q1, q2, q3])
      clear q1 q2 q3
      go_enter Try.func18, Try.ntmps18
      go_wp2_with (go_at_call 41; refine (lead_any _ _ (by assumption) (by assumption)).mono ?_; rintro e w' ⟨rfl, rfl⟩)
      go_rounds 4
      all_goals go_ret3
      all_goals refine ⟨?_, Below.refl _ _⟩
      all_goals first
        | (rw [HF.out, okS_yes (by omega) (by unfold widthI; omega)]; exact firstV_eq (by omega))
        | (rw [HF.out, okS_no (by unfold widthI; omega)]; rfl)
        | (exfalso; simp only [Bool.not_eq_true', decide_eq_false_iff_not] at *; omega)
    · have HF := Lib.hid (show fstS l = none by rw [fstS, if_neg h0, if_neg c1, if_neg c2, if_neg c3, if_neg c4, if_pos c5]; simp [hl])
      go_enter Try.func18, Try.ntmps18
      go_wp2_with (go_at_call 41; refine (lead_any _ _ (by assumption) (by assumption)).mono ?_; rintro e w' ⟨rfl, rfl⟩)
      all_goals go_ret3
      all_goals refine ⟨?_, Below.refl _ _⟩
      all_goals rw [HF.out]
      all_goals rfl
  have HF := Lib.hid (show fstS l = none by rw [fstS, if_neg h0, if_neg c1, if_neg c2, if_neg c3, if_neg c4, if_neg c5])
  have hr : leadR (at0 l 0) = 0 := by unfold leadR; omega
  have hn : leadN (at0 l 0) = 0 := by unfold leadN; omega
  go_enter Try.func18, Try.ntmps18
  go_wp2_with (go_at_call 41; refine (lead_any _ _ (by assumption) (by assumption)).mono ?_; rintro e w' ⟨rfl, rfl⟩)
  all_goals go_ret3
  all_goals refine ⟨?_, Below.refl _ _⟩
  all_goals rw [HF.out]
  all_goals rfl
end Go.Proofs.Yticeogdagnogpaa

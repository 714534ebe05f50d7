/- Runes and bytes, there and back: plain facts. -/
import Derived.Test.YticeogdagnogpaaUtfEncode
namespace Go.Proofs.Yticeogdagnogpaa
open Go.RowKit
set_option linter.unusedVariables false

theorem encI1 {r : Int} (h : r < 128) : encI r = [r] := by rw [encI, if_pos h]
theorem encI2 {r : Int} (h0 : 128 ≤ r) (h : r < 2048) : encI r = [192 + r / 64, 128 + r % 64] := by rw [encI, if_neg (by omega), if_pos h]
theorem encI3 {r : Int} (h0 : 2048 ≤ r) (h : r < 65536) : encI r = [224 + r / 4096, 128 + r / 64 % 64, 128 + r % 64] := by rw [encI, if_neg (by omega), if_neg (by omega), if_pos h]
theorem encI4 {r : Int} (h0 : 65536 ≤ r) : encI r = [240 + r / 262144, 128 + r / 4096 % 64, 128 + r / 64 % 64, 128 + r % 64] := by rw [encI, if_neg (by omega), if_neg (by omega), if_neg (by omega)]
theorem some_eq {r r' : Int} {n n' : Nat} (h : r = r') (k : n = n') : (some (r, n) : Option (Int × Nat)) = some (r', n') := by rw [h, k]

theorem fst_enc (r : Int) (t : List Int) (h : isRuneB r = true) : fstS (encI r ++ t) = some (r, (encI r).length) := by
  have hr : 0 ≤ r ∧ r ≤ 1114111 ∧ (r < 55296 ∨ 57343 < r) := by simp [isRuneB] at h; omega
  by_cases a : r < 128
  · rw [encI1 a, fst1_yes (by simpa [at0_cons_zero] using a) (by simp)]
    exact some_eq rfl rfl
  by_cases b : r < 2048
  · rw [encI2 (by omega) b]
    simp only [List.cons_append, List.nil_append]
    rw [fst2_yes (by simp only [at0_cons_zero]; omega) (by simp) (by simp only [at0_cons_succ, at0_cons_zero]; omega) (by simp only [at0_cons_succ, at0_cons_zero]; omega)]
    exact some_eq (by simp only [at0_cons_succ, at0_cons_zero]; omega) rfl
  by_cases c : r < 65536
  · rw [encI3 (by omega) c]
    simp only [List.cons_append, List.nil_append]
    have e1 : ∀ x y z : Int, at0 (x :: y :: z :: t) 1 = y := fun _ _ _ => rfl
    have e2 : ∀ x y z : Int, at0 (x :: y :: z :: t) 2 = z := fun _ _ _ => rfl
    rw [fst3_yes (by simp only [at0_cons_zero]; omega) (by simp) (by simp only [e1, e2]; omega) (by simp only [e1, e2, at0_cons_zero]; omega)]
    exact some_eq (by simp only [e1, e2, at0_cons_zero]; omega) rfl
  · rw [encI4 (by omega)]
    simp only [List.cons_append, List.nil_append]
    have e1 : ∀ x y z u : Int, at0 (x :: y :: z :: u :: t) 1 = y := fun _ _ _ _ => rfl
    have e2 : ∀ x y z u : Int, at0 (x :: y :: z :: u :: t) 2 = z := fun _ _ _ _ => rfl
    have e3 : ∀ x y z u : Int, at0 (x :: y :: z :: u :: t) 3 = u := fun _ _ _ _ => rfl
    rw [fst4_yes (by simp only [at0_cons_zero]; omega) (by simp) (by simp only [e1, e2, e3]; omega) (by simp only [e1, e2, e3, at0_cons_zero]; omega)]
    exact some_eq (by simp only [e1, e2, e3, at0_cons_zero]; omega) rfl

theorem take_at (l : List Int) : ∀ n, n ≤ l.length → l.take n = (List.range n).map (at0 l) := by
  intro n hn
  apply List.ext_getElem
  · simp; omega
  · intro i h1 h2
    simp at h1 h2
    simp [at0, show i < l.length by omega]

theorem okS_some {x : Int} {k : Nat} {r : Int} {n : Nat} (h : okS x k = some (r, n)) : x = r ∧ k = n ∧ isRuneB r = true ∧ widthI r = n := by
  unfold okS at h
  split at h
  · rename_i hq
    simp only [Option.some.injEq, Prod.mk.injEq] at h
    obtain ⟨rfl, rfl⟩ := h
    simp only [Bool.and_eq_true, beq_iff_eq] at hq
    exact ⟨rfl, rfl, hq⟩
  · cases h

theorem fst_dec {l : List Int} {r : Int} {n : Nat} (hb : Bytes l) (h : fstS l = some (r, n)) : isRuneB r = true ∧ l.take n = encI r := by
  have z := (hb.at 0).1
  have hn := fstS_bounds h
  rw [take_at l n hn.2.2.1]
  unfold fstS at h
  split at h
  · cases h
  split at h
  · simp only [Option.some.injEq, Prod.mk.injEq] at h
    obtain ⟨rfl, rfl⟩ := h
    exact ⟨isRune_yes (by omega), by rw [encI1 (by omega)]; rfl⟩
  split at h
  · cases h
  split at h
  · split at h
    · rename_i hq
      obtain ⟨h1, h2, h3, h4⟩ := okS_some h
      subst h2
      simp [contB] at hq
      have : 128 ≤ r ∧ r < 2048 := by unfold widthI at h4; omega
      refine ⟨h3, ?_⟩
      rw [encI2 (by omega) (by omega)]
      simp only [List.range, List.range.loop, List.map]
      congr 1
      · omega
      · congr 1
        omega
    · cases h
  split at h
  · split at h
    · rename_i hq
      obtain ⟨h1, h2, h3, h4⟩ := okS_some h
      subst h2
      simp [contB] at hq
      have : 2048 ≤ r ∧ r < 65536 := by unfold widthI at h4; omega
      refine ⟨h3, ?_⟩
      rw [encI3 (by omega) (by omega)]
      simp only [List.range, List.range.loop, List.map]
      congr 1
      · omega
      · congr 1
        · omega
        · congr 1
          omega
    · cases h
  split at h
  · split at h
    · rename_i hq
      obtain ⟨h1, h2, h3, h4⟩ := okS_some h
      subst h2
      simp [contB] at hq
      have : 65536 ≤ r := by unfold widthI at h4; omega
      refine ⟨h3, ?_⟩
      rw [encI4 (by omega)]
      simp only [List.range, List.range.loop, List.map]
      congr 1
      · omega
      · congr 1
        · omega
        · congr 1
          · omega
          · congr 1
            omega
    · cases h
  · cases h

theorem fst_len {l : List Int} {r : Int} {n : Nat} (hb : Bytes l) (h : fstS l = some (r, n)) : n = (encI r).length := by
  have h1 := (fst_dec hb h).2
  have h2 := fstS_bounds h
  rw [← h1, List.length_take]
  omega

/-- What is encoded is decoded as it was. -/
theorem dec_enc : ∀ (l bs : List Int), encS l = some bs → decS bs = some l := by
  intro l
  induction l with
  | nil => intro bs h; cases h; exact decS_nil
  | cons r t ih =>
    intro bs h
    simp only [encS] at h
    split at h
    · rename_i hr
      cases ht : encS t with
      | none => rw [ht] at h; cases h
      | some ts =>
        rw [ht] at h
        cases h
        have hl := encI_len r
        rw [decS_some (by intro e; have := congrArg List.length e; simp at this; simp [this] at hl) (fst_enc r ts hr), List.drop_left, ih ts ht]
        rfl
    · cases h

/-- What is decoded, and encoded, is those bytes. -/
theorem enc_dec (n : Nat) : ∀ (bs l : List Int), bs.length ≤ n → Bytes bs → decS bs = some l → encS l = some bs := by
  induction n with
  | zero =>
    intro bs l hn hb h
    obtain rfl : bs = [] := List.eq_nil_of_length_eq_zero (by omega)
    rw [decS_nil] at h
    cases h
    rfl
  | succ n ih =>
    intro bs l hn hb h
    by_cases he : bs = []
    · subst he
      rw [decS_nil] at h
      cases h
      rfl
    · rcases hf : fstS bs with _ | ⟨r, k⟩
      · rw [decS_none he hf] at h; cases h
      · rw [decS_some he hf] at h
        have hk := fstS_bounds hf
        obtain ⟨hr, ht⟩ := fst_dec hb hf
        cases hd : decS (bs.drop k) with
        | none => rw [hd] at h; cases h
        | some m =>
          rw [hd] at h
          cases h
          have := ih (bs.drop k) m (by simp; omega) (hb.drop k) hd
          simp only [encS, hr, if_true, this, Option.map_some]
          rw [← ht, List.take_append_drop]

/-- Right bytes, one behind the other. -/
theorem dec_append (n : Nat) : ∀ (a b l m : List Int), a.length ≤ n → Bytes a → decS a = some l → decS b = some m → decS (a ++ b) = some (l ++ m) := by
  induction n with
  | zero =>
    intro a b l m hn hb h k
    obtain rfl : a = [] := List.eq_nil_of_length_eq_zero (by omega)
    rw [decS_nil] at h
    cases h
    exact k
  | succ n ih =>
    intro a b l m hn hb h k
    by_cases he : a = []
    · subst he
      rw [decS_nil] at h
      cases h
      exact k
    · rcases hf : fstS a with _ | ⟨r, j⟩
      · rw [decS_none he hf] at h; cases h
      · rw [decS_some he hf] at h
        have hk := fstS_bounds hf
        obtain ⟨hr, ht⟩ := fst_dec hb hf
        have hj := fst_len hb hf
        cases hd : decS (a.drop j) with
        | none => rw [hd] at h; cases h
        | some l' =>
          rw [hd] at h
          cases h
          have h1 := ih (a.drop j) b l' m (by simp; omega) (hb.drop j) hd k
          have h2 : fstS (a ++ b) = some (r, j) := by
            rw [← List.take_append_drop j a, ht, List.append_assoc, fst_enc r _ hr, hj]
          rw [decS_some (by simp [he]) h2, List.drop_append_of_le_length (by omega), h1]
          rfl

/-- Right bytes are the rune that they begin with, and the runes of what is left. -/
theorem dec_first {b l : List Int} (he : b ≠ []) (h : decS b = some l) : ∃ r n m, fstS b = some (r, n) ∧ decS (b.drop n) = some m ∧ l = r :: m := by
  rcases hf : fstS b with _ | ⟨r, n⟩
  · rw [decS_none he hf] at h; cases h
  · rw [decS_some he hf] at h
    cases hd : decS (b.drop n) with
    | none => rw [hd] at h; cases h
    | some m =>
      rw [hd] at h
      cases h
      exact ⟨r, n, m, rfl, hd, rfl⟩
end Go.Proofs.Yticeogdagnogpaa

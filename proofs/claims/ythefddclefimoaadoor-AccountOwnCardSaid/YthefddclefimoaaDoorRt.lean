/- Lists that are right: so many at most, each of them good, in order. No program stands here. -/
import Derived.Test.YthefddclefimoaaDoorTx
namespace Go.Proofs.YthefddclefimoaaDoor
open Go.RowKit
set_option linter.unusedVariables false
section
variable {α : Type} {g : α → Bool} {r : α → α → Bool} {n : Nat}
def upL (r : α → α → Bool) : List α → Bool
  | a :: b :: l => r a b && upL r (b :: l)
  | _ => true
def rightL (n : Nat) (g : α → Bool) (r : α → α → Bool) (xs : List α) : Bool := decide (xs.length ≤ n) && (xs.all g && upL r xs)
theorem upL_t : ∀ (xs : List α), (∀ k a b, k + 1 < xs.length → xs[k]? = some a → xs[k + 1]? = some b → r a b = true) → upL r xs = true
  | [], _ => rfl
  | [a], _ => rfl
  | a :: b :: l, h => by
    unfold upL
    rw [h 0 a b (by simp) rfl rfl, Bool.true_and]
    exact upL_t (b :: l) fun k x y hk hx hy => h (k + 1) x y (by simpa using hk) (by simpa using hx) (by simpa using hy)
theorem upL_f : ∀ (xs : List α) (k : Nat) (a b : α), xs[k]? = some a → xs[k + 1]? = some b → r a b = false → upL r xs = false
  | [], k, a, b, h, _, _ => by simp at h
  | [x], k, a, b, _, h, _ => by simp at h
  | x :: y :: l, 0, a, b, h1, h2, h => by
    simp at h1 h2
    subst h1 h2
    simp [upL, h]
  | x :: y :: l, k + 1, a, b, h1, h2, h => by
    unfold upL
    rw [upL_f (y :: l) k a b (by simpa using h1) (by simpa using h2) h, Bool.and_false]
theorem right_t {xs : List α} (h : xs.length ≤ n) (hv : ∀ k a, k < xs.length → xs[k]? = some a → g a = true) (hu : ∀ k a b, k + 1 < xs.length → xs[k]? = some a → xs[k + 1]? = some b → r a b = true) : rightL n g r xs = true := by
  unfold rightL
  rw [decide_eq_true h, upL_t xs hu, Bool.and_true, Bool.true_and, List.all_eq_true]
  intro x hx
  obtain ⟨k, hk, rfl⟩ := List.getElem_of_mem hx
  exact hv k _ hk (List.getElem?_eq_getElem hk)
theorem right_f1 {xs : List α} (h : n < xs.length) : rightL n g r xs = false := by
  unfold rightL
  rw [decide_eq_false (by omega), Bool.false_and]
theorem right_f2 {xs : List α} {k : Nat} {a : α} (h : xs[k]? = some a) (ha : g a = false) : rightL n g r xs = false := by
  have : xs.all g = false := List.all_eq_false.2 ⟨a, List.mem_of_getElem? h, by simp [ha]⟩
  unfold rightL
  rw [this, Bool.false_and, Bool.and_false]
theorem right_f3 {xs : List α} {k i : Nat} {a b : α} (hk : xs[k]? = some a) (hi : xs[i]? = some b) (e : k + 1 = i) (h : r a b = false) : rightL n g r xs = false := by
  subst e
  unfold rightL
  rw [upL_f xs k a b hk hi h, Bool.and_false, Bool.and_false]
/-- The loop's facts, one step on. -/
theorem good_step {xs : List α} {i : Nat} {a : α} (h : ∀ k a, k < i → xs[k]? = some a → g a = true) (hi : xs[i]? = some a) (ha : g a = true) : ∀ k b, k < i + 1 → xs[k]? = some b → g b = true := fun k b hk hb => by
  rcases Nat.lt_or_ge k i with hl | hl
  · exact h k b hl hb
  · obtain rfl : k = i := by omega
    rw [hi] at hb
    cases hb
    exact ha
theorem up_step0 {xs : List α} {i : Nat} (hi : ¬ 0 < i) : ∀ k a b, k + 1 < i + 1 → xs[k]? = some a → xs[k + 1]? = some b → r a b = true := fun k a b hk _ _ => by omega
theorem up_step {xs : List α} {i j : Nat} {a b : α} (h : ∀ k a b, k + 1 < i → xs[k]? = some a → xs[k + 1]? = some b → r a b = true) (hj : xs[j]? = some a) (hi : xs[i]? = some b) (e : j + 1 = i) (hab : r a b = true) : ∀ k a b, k + 1 < i + 1 → xs[k]? = some a → xs[k + 1]? = some b → r a b = true := fun k x y hk hx hy => by
  rcases Nat.lt_or_ge (k + 1) i with hl | hl
  · exact h k x y hl hx hy
  · obtain rfl : k = j := by omega
    subst e
    rw [hj] at hx
    rw [hi] at hy
    cases hx
    cases hy
    exact hab
-- what a drawn test says: c: not good; d: there is one ahead
theorem not3 {a b c x y z : Bool} (h1 : a = !x) (h2 : b = (a || !y)) (h3 : c = (b || !z)) : c = !(x && (y && z)) := by
  subst h1 h2 h3
  cases x <;> cases y <;> cases z <;> rfl
theorem stepD {xs : List α} {i : Nat} {x y : α} {c d : Bool} (hv : ∀ k a, k < i → xs[k]? = some a → g a = true) (hu : ∀ k a b, k + 1 < i → xs[k]? = some a → xs[k + 1]? = some b → r a b = true) (hj : xs[i - 1]? = some y) (hi : xs[i]? = some x) (hc : c = !g x) (hd : d = (!c && decide (0 < (i : Int)))) (h1 : c = false) (h2 : (d && !r y x) = false) :
    (∀ k a, k < i + 1 → xs[k]? = some a → g a = true) ∧ (∀ k a b, k + 1 < i + 1 → xs[k]? = some a → xs[k + 1]? = some b → r a b = true) := by
  have hg : g x = true := by rw [h1] at hc; cases hx : g x <;> simp_all
  refine ⟨good_step hv hi hg, ?_⟩
  by_cases h0 : 0 < i
  · refine up_step hu hj hi (by omega) ?_
    have hd1 : d = true := by rw [hd, h1, decide_eq_true (by omega)]; rfl
    rw [hd1] at h2
    simpa using h2
  · exact up_step0 h0
theorem right_fD {xs : List α} {i : Nat} {x y : α} {c d : Bool} (hj : xs[i - 1]? = some y) (hi : xs[i]? = some x) (hc : c = !g x) (hd : d = (!c && decide (0 < (i : Int)))) (h : (c || (d && !r y x)) = true) : rightL n g r xs = false := by
  cases hx : g x with
  | false => exact right_f2 hi hx
  | true =>
    rw [hx] at hc
    subst hc
    simp only [Bool.not_true, Bool.not_false, Bool.true_and] at hd
    subst hd
    simp only [Bool.not_true, Bool.false_or, Bool.and_eq_true, decide_eq_true_eq, Bool.not_eq_true'] at h
    exact right_f3 hj hi (by omega) h.2
-- what it means
theorem right_iff {xs : List α} (ht : ∀ a b c, r a b = true → r b c = true → r a c = true) : rightL n g r xs = true ↔ xs.length ≤ n ∧ (∀ x ∈ xs, g x = true) ∧ xs.Pairwise (fun a b => r a b = true) := by
  have key : ∀ l : List α, upL r l = true ↔ l.Pairwise (fun a b => r a b = true) := by
    intro l
    induction l with
    | nil => simp [upL]
    | cons a l ih =>
      cases l with
      | nil => simp [upL]
      | cons b l =>
        rw [upL, Bool.and_eq_true, ih]
        constructor
        · rintro ⟨h1, h2⟩
          refine List.pairwise_cons.2 ⟨fun x hx => ?_, h2⟩
          rcases List.mem_cons.1 hx with rfl | hx
          · exact h1
          · exact ht _ _ _ h1 ((List.pairwise_cons.1 h2).1 x hx)
        · intro h
          exact ⟨(List.pairwise_cons.1 h).1 b (.head _), (List.pairwise_cons.1 h).2⟩
  unfold rightL
  rw [Bool.and_eq_true, Bool.and_eq_true, decide_eq_true_iff, List.all_eq_true, key]
end
end Go.Proofs.YthefddclefimoaaDoor

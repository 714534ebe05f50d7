/- Letters' bytes, letter by letter; what is decoded, and encoded again: plain facts. -/
import Derived.Test.YtibkkdbjmcongaaDoorBaseEnc
namespace Go.Proofs.YtibkkdbjmcongaaDoor
open Go.RowKit
set_option linter.unusedVariables false

/-- One number of six bits more: what has been told, the bits since, how many they are. -/
def dstep (s : BSt) (v : Int) : BSt :=
  if 8 ≤ s.2.2 + 6 then (s.1 ++ [(s.2.1 * 64 + v) / 2 ^ (s.2.2 - 2)], (s.2.1 * 64 + v) % 2 ^ (s.2.2 - 2), s.2.2 - 2) else (s.1, s.2.1 * 64 + v, s.2.2 + 6)
def dst (vs : List Int) : Nat → BSt
  | 0 => ([], 0, 0)
  | k + 1 => dstep (dst vs k) (at0 vs k)
def Six (l : List Int) : Prop := ∀ x ∈ l, 0 ≤ x ∧ x < 64
theorem Six.at {l : List Int} (h : Six l) (k : Nat) : 0 ≤ at0 l k ∧ at0 l k < 64 := by
  by_cases hk : k < l.length
  · exact h _ (at0_mem hk)
  · simp [at0, hk]
def DInv (s : BSt) : Prop := (s.2.2 = 0 ∨ s.2.2 = 2 ∨ s.2.2 = 4 ∨ s.2.2 = 6) ∧ 0 ≤ s.2.1 ∧ s.2.1 < 2 ^ s.2.2 ∧ Bytes s.1
theorem DInv.step {s : BSt} (h : DInv s) {v : Int} (h0 : 0 ≤ v) (h1 : v < 64) : DInv (dstep s v) := by
  obtain ⟨es, n, k⟩ := s
  obtain ⟨i1, i2, i3, i4⟩ := h
  simp only at i1 i2 i3 i4
  have bnew : ∀ x : Int, 0 ≤ x → x ≤ 255 → Bytes (es ++ [x]) := fun x a b => i4.append (fun y hy => by simp at hy; omega)
  rcases i1 with rfl | rfl | rfl | rfl
  · exact ⟨by simp [dstep], (by simp [dstep] <;> omega), (by simp [dstep] <;> omega), by simpa [dstep] using i4⟩
  · refine ⟨by simp [dstep], (by simp [dstep] <;> omega), (by simp [dstep] <;> omega), ?_⟩
    simp only [dstep, Nat.reduceAdd, Nat.reduceLeDiff, if_true, Nat.reduceSub]
    exact bnew _ (by omega) (by omega)
  · refine ⟨by simp [dstep], (by simp [dstep] <;> omega), (by simp [dstep] <;> omega), ?_⟩
    simp only [dstep, Nat.reduceAdd, Nat.reduceLeDiff, if_true, Nat.reduceSub]
    exact bnew _ (by omega) (by omega)
  · refine ⟨by simp [dstep], (by simp [dstep] <;> omega), (by simp [dstep] <;> omega), ?_⟩
    simp only [dstep, Nat.reduceAdd, Nat.reduceLeDiff, if_true, Nat.reduceSub]
    exact bnew _ (by omega) (by omega)
theorem dst_inv {vs : List Int} (h : Six vs) (k : Nat) : DInv (dst vs k) := by
  induction k with
  | zero => exact ⟨by simp [dst], by simp [dst], by simp [dst], by intro x hx; cases hx⟩
  | succ k ih => exact ih.step (h.at k).1 (h.at k).2
theorem dst_len (vs : List Int) (k : Nat) : (dst vs k).1.length ≤ k := by
  induction k with
  | zero => simp [dst]
  | succ k ih =>
    rw [dst, dstep]
    split
    · simp only [List.length_append, List.length_cons, List.length_nil]; omega
    · simp only; omega

/-- The bytes of all numbers, if they are just bytes' numbers. -/
def decV (vs : List Int) : Option (List Int) := if (dst vs vs.length).2.2 = 6 ∨ (dst vs vs.length).2.1 ≠ 0 then none else some (dst vs vs.length).1

/- By groups: of three bytes, of four numbers. -/
def encG : List Int → List Int
  | [] => []
  | [x] => [x / 4, x % 4 * 16]
  | [x, y] => [x / 4, x % 4 * 16 + y / 16, y % 16 * 4]
  | x :: y :: z :: t => [x / 4, x % 4 * 16 + y / 16, y % 16 * 4 + z / 64, z % 64] ++ encG t
def decG : List Int → BSt
  | [] => ([], 0, 0)
  | [a] => ([], a, 6)
  | [a, b] => ([(a * 64 + b) / 16], (a * 64 + b) % 16, 4)
  | [a, b, c] => ([(a * 64 + b) / 16, ((a * 64 + b) % 16 * 64 + c) / 4], ((a * 64 + b) % 16 * 64 + c) % 4, 2)
  | a :: b :: c :: d :: t => ([(a * 64 + b) / 16, ((a * 64 + b) % 16 * 64 + c) / 4, (((a * 64 + b) % 16 * 64 + c) % 4 * 64 + d)] ++ (decG t).1, (decG t).2.1, (decG t).2.2)

def pre (p : List Int) (s : BSt) : BSt := (p ++ s.1, s.2.1, s.2.2)
theorem pre_bstep (p : List Int) (s : BSt) (b : Int) : bstep (pre p s) b = pre p (bstep s b) := by
  obtain ⟨es, n, k⟩ := s
  show (if k + 1 = 6 then (p ++ es ++ [2 * n + b], 0, 0) else (p ++ es, 2 * n + b, k + 1)) = pre p (if k + 1 = 6 then (es ++ [2 * n + b], 0, 0) else (es, 2 * n + b, k + 1))
  by_cases h : k + 1 = 6
  · rw [if_pos h, if_pos h, List.append_assoc]; rfl
  · rw [if_neg h, if_neg h]; rfl
theorem pre_dstep (p : List Int) (s : BSt) (b : Int) : dstep (pre p s) b = pre p (dstep s b) := by
  obtain ⟨es, n, k⟩ := s
  show (if 8 ≤ k + 6 then (p ++ es ++ [(n * 64 + b) / 2 ^ (k - 2)], (n * 64 + b) % 2 ^ (k - 2), k - 2) else (p ++ es, n * 64 + b, k + 6)) = pre p (if 8 ≤ k + 6 then (es ++ [(n * 64 + b) / 2 ^ (k - 2)], (n * 64 + b) % 2 ^ (k - 2), k - 2) else (es, n * 64 + b, k + 6))
  by_cases h : 8 ≤ k + 6
  · rw [if_pos h, if_pos h, List.append_assoc]; rfl
  · rw [if_neg h, if_neg h]; rfl
theorem bit_shift (x y z : Int) (t : List Int) (k : Nat) : bitAt (x :: y :: z :: t) (24 + k) = bitAt t k := by
  unfold bitAt
  rw [show (24 + k) / 8 = (k / 8) + 1 + 1 + 1 by omega, show (24 + k) % 8 = k % 8 by omega, at0_cons_succ, at0_cons_succ, at0_cons_succ]
theorem bst_shift (x y z : Int) (t p : List Int) (h : bst (x :: y :: z :: t) 24 = (p, 0, 0)) (k : Nat) : bst (x :: y :: z :: t) (24 + k) = pre p (bst t k) := by
  induction k with
  | zero => rw [Nat.add_zero, h]; simp [pre, bst]
  | succ k ih =>
    show bstep (bst (x :: y :: z :: t) (24 + k)) (bitAt (x :: y :: z :: t) (24 + k)) = pre p (bstep (bst t k) (bitAt t k))
    rw [ih, pre_bstep, bit_shift]
theorem dst_shift (a b c d : Int) (t p : List Int) (h : dst (a :: b :: c :: d :: t) 4 = (p, 0, 0)) (k : Nat) : dst (a :: b :: c :: d :: t) (4 + k) = pre p (dst t k) := by
  induction k with
  | zero => rw [Nat.add_zero, h]; simp [pre, dst]
  | succ k ih =>
    show dstep (dst (a :: b :: c :: d :: t) (4 + k)) (at0 (a :: b :: c :: d :: t) (4 + k)) = pre p (dstep (dst t k) (at0 t k))
    rw [ih, pre_dstep, show 4 + k = k + 1 + 1 + 1 + 1 by omega, at0_cons_succ, at0_cons_succ, at0_cons_succ, at0_cons_succ]
theorem bst_24 (x y z : Int) (t : List Int) (hb : Bytes (x :: y :: z :: t)) : bst (x :: y :: z :: t) 24 = ([x / 4, x % 4 * 16 + y / 16, y % 16 * 4 + z / 64, z % 64], 0, 0) := by
  have h0 := bst8_0 (x :: y :: z :: t) 0 [] 0 rfl (hb.at 0) rfl
  have h1 := bst8_2 _ 1 _ _ (hb.at 1) h0
  have h2 := bst8_4 _ 2 _ _ (hb.at 2) h1
  exact h2
theorem dst_4 (a b c d : Int) (t : List Int) (hb : Six (a :: b :: c :: d :: t)) : dst (a :: b :: c :: d :: t) 4 = ([(a * 64 + b) / 16, ((a * 64 + b) % 16 * 64 + c) / 4, (((a * 64 + b) % 16 * 64 + c) % 4 * 64 + d)], 0, 0) := by
  have h0 := hb.at 0
  have h1 := hb.at 1
  have h2 := hb.at 2
  have h3 := hb.at 3
  simp only [show at0 (a :: b :: c :: d :: t) 0 = a from rfl, show at0 (a :: b :: c :: d :: t) 1 = b from rfl, show at0 (a :: b :: c :: d :: t) 2 = c from rfl, show at0 (a :: b :: c :: d :: t) 3 = d from rfl] at h0 h1 h2 h3
  simp only [dst, dstep, show at0 (a :: b :: c :: d :: t) 0 = a from rfl, show at0 (a :: b :: c :: d :: t) 1 = b from rfl, show at0 (a :: b :: c :: d :: t) 2 = c from rfl, show at0 (a :: b :: c :: d :: t) 3 = d from rfl, Nat.reduceAdd, Nat.reduceLeDiff, if_true, if_false, Nat.reduceSub, Int.zero_mul, Int.zero_add, List.nil_append, List.cons_append]
  simp
theorem Bytes.tail {x : Int} {l : List Int} (h : Bytes (x :: l)) : Bytes l := fun y hy => h y (List.mem_cons_of_mem _ hy)
theorem Six.tail {x : Int} {l : List Int} (h : Six (x :: l)) : Six l := fun y hy => h y (List.mem_cons_of_mem _ hy)

theorem encL_nil : encL [] = [] := by simp [encL, bst]
theorem encL_group (x y z : Int) (t : List Int) (hb : Bytes (x :: y :: z :: t)) : encL (x :: y :: z :: t) = [x / 4, x % 4 * 16 + y / 16, y % 16 * 4 + z / 64, z % 64] ++ encL t := by
  have h := bst_shift x y z t _ (bst_24 x y z t hb) (8 * t.length)
  have e : 8 * (x :: y :: z :: t).length = 24 + 8 * t.length := by simp; omega
  simp only [encL, e, h, pre]
  split <;> simp
theorem encL_one (x : Int) (hb : Bytes [x]) : encL [x] = [x / 4, x % 4 * 16] := by
  have h0 := bst8_0 [x] 0 [] 0 rfl (hb.at 0) rfl
  simp only [encL, List.length_cons, List.length_nil, Nat.zero_add] at h0 ⊢
  rw [h0]
  rfl
theorem encL_two (x y : Int) (hb : Bytes [x, y]) : encL [x, y] = [x / 4, x % 4 * 16 + y / 16, y % 16 * 4] := by
  have h0 := bst8_0 [x, y] 0 [] 0 rfl (hb.at 0) rfl
  have h1 := bst8_2 _ 1 _ _ (hb.at 1) h0
  simp only [encL, List.length_cons, List.length_nil, Nat.zero_add, Nat.reduceAdd] at h1 ⊢
  rw [h1]
  rfl
theorem encL_G (n : Nat) : ∀ l : List Int, l.length ≤ n → Bytes l → encL l = encG l := by
  induction n with
  | zero =>
    intro l hn hb
    obtain rfl : l = [] := List.eq_nil_of_length_eq_zero (by omega)
    exact encL_nil
  | succ n ih =>
    intro l hn hb
    match l, hn, hb with
    | [], _, _ => exact encL_nil
    | [x], _, hb => exact encL_one x hb
    | [x, y], _, hb => exact encL_two x y hb
    | x :: y :: z :: t, hn, hb => rw [encL_group x y z t hb, ih t (by simp at hn; omega) hb.tail.tail.tail]; rfl

theorem dst_G (n : Nat) : ∀ l : List Int, l.length ≤ n → Six l → dst l l.length = decG l := by
  induction n with
  | zero =>
    intro l hn hb
    obtain rfl : l = [] := List.eq_nil_of_length_eq_zero (by omega)
    rfl
  | succ n ih =>
    intro l hn hb
    match l, hn, hb with
    | [], _, _ => rfl
    | [a], _, hb => simp [dst, dstep, decG, at0]
    | [a, b], _, hb => simp [dst, dstep, decG, at0]
    | [a, b, c], _, hb => simp [dst, dstep, decG, at0]
    | a :: b :: c :: d :: t, hn, hb =>
      have h := dst_shift a b c d t _ (dst_4 a b c d t hb) t.length
      have e : (a :: b :: c :: d :: t).length = 4 + t.length := by simp; omega
      rw [e, h, ih t (by simp at hn; omega) hb.tail.tail.tail.tail]
      rfl

theorem cons4 {a b c d a' b' c' d' : Int} {t t' : List Int} : a :: b :: c :: d :: t = a' :: b' :: c' :: d' :: t' ↔ a = a' ∧ b = b' ∧ c = c' ∧ d = d' ∧ t = t' := by simp

/-- Encoded again it is the same just if no bits are left. -/
theorem enc_dec_G (n : Nat) : ∀ l : List Int, l.length ≤ n → Six l → (encG (decG l).1 = l ↔ ¬ ((decG l).2.2 = 6 ∨ (decG l).2.1 ≠ 0)) := by
  induction n with
  | zero =>
    intro l hn hb
    obtain rfl : l = [] := List.eq_nil_of_length_eq_zero (by omega)
    simp [decG, encG]
  | succ n ih =>
    intro l hn hb
    match l, hn, hb with
    | [], _, _ => simp [decG, encG]
    | [a], _, hb => simp [decG, encG]
    | [a, b], _, hb =>
      have h0 := hb.at 0
      have h1 := hb.at 1
      simp only [show at0 [a, b] 0 = a from rfl, show at0 [a, b] 1 = b from rfl] at h0 h1
      simp only [decG, encG, List.cons.injEq, and_true]
      omega
    | [a, b, c], _, hb =>
      have h0 := hb.at 0
      have h1 := hb.at 1
      have h2 := hb.at 2
      simp only [show at0 [a, b, c] 0 = a from rfl, show at0 [a, b, c] 1 = b from rfl, show at0 [a, b, c] 2 = c from rfl] at h0 h1 h2
      simp only [decG, encG, List.cons.injEq, and_true]
      omega
    | a :: b :: c :: d :: t, hn, hb =>
      have h0 := hb.at 0
      have h1 := hb.at 1
      have h2 := hb.at 2
      have h3 := hb.at 3
      simp only [show at0 (a :: b :: c :: d :: t) 0 = a from rfl, show at0 (a :: b :: c :: d :: t) 1 = b from rfl, show at0 (a :: b :: c :: d :: t) 2 = c from rfl, show at0 (a :: b :: c :: d :: t) 3 = d from rfl] at h0 h1 h2 h3
      have h := ih t (by simp at hn; omega) hb.tail.tail.tail.tail
      simp only [decG, List.cons_append, List.nil_append, encG, cons4]
      rw [← h]
      constructor
      · rintro ⟨_, _, _, _, h⟩; exact h
      · intro h
        exact ⟨by omega, by omega, by omega, by omega, h⟩
/-- What is encoded is decoded as it was. -/
theorem dec_enc_G (n : Nat) : ∀ l : List Int, l.length ≤ n → Bytes l → (decG (encG l)).1 = l ∧ (decG (encG l)).2.2 ≠ 6 ∧ (decG (encG l)).2.1 = 0 := by
  induction n with
  | zero =>
    intro l hn hb
    obtain rfl : l = [] := List.eq_nil_of_length_eq_zero (by omega)
    simp [decG, encG]
  | succ n ih =>
    intro l hn hb
    match l, hn, hb with
    | [], _, _ => simp [decG, encG]
    | [x], _, hb =>
      have h0 := hb.at 0
      simp only [show at0 [x] 0 = x from rfl] at h0
      simp only [decG, encG, List.cons.injEq, and_true]
      omega
    | [x, y], _, hb =>
      have h0 := hb.at 0
      have h1 := hb.at 1
      simp only [show at0 [x, y] 0 = x from rfl, show at0 [x, y] 1 = y from rfl] at h0 h1
      simp only [decG, encG, List.cons.injEq, and_true]
      omega
    | x :: y :: z :: t, hn, hb =>
      have h0 := hb.at 0
      have h1 := hb.at 1
      have h2 := hb.at 2
      simp only [show at0 (x :: y :: z :: t) 0 = x from rfl, show at0 (x :: y :: z :: t) 1 = y from rfl, show at0 (x :: y :: z :: t) 2 = z from rfl] at h0 h1 h2
      have h := ih t (by simp at hn; omega) hb.tail.tail.tail
      simp only [encG, List.cons_append, List.nil_append, decG, List.cons.injEq]
      exact ⟨⟨by omega, by omega, by omega, h.1⟩, h.2⟩
theorem encG_six (n : Nat) : ∀ l : List Int, l.length ≤ n → Bytes l → Six (encG l) := by
  induction n with
  | zero =>
    intro l hn hb
    obtain rfl : l = [] := List.eq_nil_of_length_eq_zero (by omega)
    intro x hx; cases hx
  | succ n ih =>
    intro l hn hb
    match l, hn, hb with
    | [], _, _ => intro x hx; cases hx
    | [x], _, hb =>
      have h0 := hb.at 0
      simp only [show at0 [x] 0 = x from rfl] at h0
      intro u hu
      simp [encG] at hu
      omega
    | [x, y], _, hb =>
      have h0 := hb.at 0
      have h1 := hb.at 1
      simp only [show at0 [x, y] 0 = x from rfl, show at0 [x, y] 1 = y from rfl] at h0 h1
      intro u hu
      simp [encG] at hu
      omega
    | x :: y :: z :: t, hn, hb =>
      have h0 := hb.at 0
      have h1 := hb.at 1
      have h2 := hb.at 2
      simp only [show at0 (x :: y :: z :: t) 0 = x from rfl, show at0 (x :: y :: z :: t) 1 = y from rfl, show at0 (x :: y :: z :: t) 2 = z from rfl] at h0 h1 h2
      intro u hu
      simp only [encG, List.cons_append, List.nil_append, List.mem_cons] at hu
      rcases hu with hu | hu | hu | hu | hu
      · omega
      · omega
      · omega
      · omega
      · exact ih t (by simp at hn; omega) hb.tail.tail.tail u hu
theorem encG_append (n : Nat) : ∀ a b : List Int, a.length = 3 * n → encG (a ++ b) = encG a ++ encG b := by
  induction n with
  | zero =>
    intro a b hn
    obtain rfl : a = [] := List.eq_nil_of_length_eq_zero (by omega)
    rfl
  | succ n ih =>
    intro a b hn
    match a, hn with
    | [], hn => simp at hn <;> omega
    | [x], hn => simp at hn <;> omega
    | [x, y], hn => simp at hn <;> omega
    | x :: y :: z :: t, hn =>
      have h := ih t b (by simp at hn; omega)
      simp only [List.cons_append, encG, List.nil_append, h]
end Go.Proofs.YtibkkdbjmcongaaDoor

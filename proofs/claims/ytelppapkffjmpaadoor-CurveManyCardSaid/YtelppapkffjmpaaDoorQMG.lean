/- Merged: Primes: binomials, Fermat, Pocklington; 2^255 - 19 is one. No program stands here. Fermat, for whole numbers; an inverse. Which numbers have a root: by Euler's power. The curve's group: numbers modulo p as a field, the sum of points, that it is a group. No program stands here. -/
import Derived.Test.YtelppapkffjmpaaDoorQMA
import Derived.Test.YtelppapkffjmpaaDoorQME
section
namespace Go.Proofs.YtelppapkffjmpaaDoor
set_option linter.unusedVariables false
set_option maxRecDepth 100000

/-- A prime. -/
def Prm (p : Nat) : Prop := 2 ≤ p ∧ ∀ d, d ∣ p → d = 1 ∨ d = p
theorem Prm.cop {p a : Nat} (h : Prm p) (ha : ¬ p ∣ a) : Nat.gcd p a = 1 := by
  rcases h.2 (Nat.gcd p a) (Nat.gcd_dvd_left p a) with e | e
  · exact e
  · exact absurd (e ▸ Nat.gcd_dvd_right p a) ha
theorem Prm.euclid {p a b : Nat} (h : Prm p) (hab : p ∣ a * b) : p ∣ a ∨ p ∣ b := by
  by_cases ha : p ∣ a
  · exact .inl ha
  · exact .inr (Nat.Coprime.dvd_of_dvd_mul_left (h.cop ha) hab)
/-- Binomials. -/
def bin : Nat → Nat → Nat
  | _, 0 => 1
  | 0, _ + 1 => 0
  | n + 1, k + 1 => bin n k + bin n (k + 1)
theorem bin_zero (n : Nat) : bin n 0 = 1 := by cases n <;> rfl
theorem bin_succ (n k : Nat) : bin (n + 1) (k + 1) = bin n k + bin n (k + 1) := rfl
theorem bin_mul : ∀ n k, (k + 1) * bin (n + 1) (k + 1) = (n + 1) * bin n k
  | 0, 0 => rfl
  | 0, k + 1 => by simp [bin]
  | n + 1, 0 => by
    have h := bin_mul n 0
    rw [bin_succ (n + 1) 0, bin_zero]
    rw [bin_zero] at h
    omega
  | n + 1, j + 1 => by
    have h1 := bin_mul n (j + 1)
    have h2 := bin_mul n j
    have h3 := bin_succ n j
    rw [bin_succ (n + 1) (j + 1)]
    have e1 : (j + 1 + 1) * (bin (n + 1) (j + 1) + bin (n + 1) (j + 1 + 1)) = (j + 1) * bin (n + 1) (j + 1) + bin (n + 1) (j + 1) + (j + 1 + 1) * bin (n + 1) (j + 1 + 1) := by
      rw [Nat.mul_add, Nat.add_mul (j + 1) 1, Nat.one_mul]
    rw [e1, h1, h2, Nat.add_mul (n + 1) 1, Nat.one_mul]
    have e2 : (n + 1) * bin (n + 1) (j + 1) = (n + 1) * bin n j + (n + 1) * bin n (j + 1) := by rw [h3, Nat.mul_add]
    omega
theorem bin_over : ∀ n k, n < k → bin n k = 0
  | 0, 0, h => by omega
  | 0, k + 1, _ => rfl
  | n + 1, 0, h => by omega
  | n + 1, k + 1, h => by rw [bin_succ, bin_over n k (by omega), bin_over n (k + 1) (by omega)]
theorem bin_self : ∀ n, bin n n = 1
  | 0 => rfl
  | n + 1 => by rw [bin_succ, bin_self n, bin_over n (n + 1) (by omega)]
/-- A sum of so many. -/
def sumF (f : Nat → Nat) : Nat → Nat
  | 0 => 0
  | n + 1 => sumF f n + f n
theorem sumF_shift (f : Nat → Nat) : ∀ n, sumF f (n + 1) = f 0 + sumF (fun k => f (k + 1)) n
  | 0 => by simp [sumF]
  | n + 1 => by
    rw [sumF, sumF_shift f n]
    show _ = f 0 + (sumF (fun k => f (k + 1)) n + f (n + 1))
    omega
theorem sumF_add (f g : Nat → Nat) : ∀ n, sumF (fun k => f k + g k) n = sumF f n + sumF g n
  | 0 => rfl
  | n + 1 => by simp only [sumF, sumF_add f g n]; omega
theorem sumF_mul (c : Nat) (f : Nat → Nat) : ∀ n, sumF (fun k => c * f k) n = c * sumF f n
  | 0 => rfl
  | n + 1 => by simp only [sumF, sumF_mul c f n, Nat.mul_add]
theorem sumF_congr {f g : Nat → Nat} : ∀ n, (∀ k, k < n → f k = g k) → sumF f n = sumF g n
  | 0, _ => rfl
  | n + 1, h => by rw [sumF, sumF, sumF_congr n (fun k hk => h k (by omega)), h n (by omega)]
theorem sumF_dvd {p : Nat} {f : Nat → Nat} : ∀ n, (∀ k, k < n → p ∣ f k) → p ∣ sumF f n
  | 0, _ => Nat.dvd_zero p
  | n + 1, h => Nat.dvd_add (sumF_dvd n (fun k hk => h k (by omega))) (h n (by omega))
theorem binom (a : Nat) : ∀ n, (a + 1) ^ n = sumF (fun k => bin n k * a ^ k) (n + 1)
  | 0 => rfl
  | n + 1 => by
    have ih := binom a n
    rw [sumF_shift, bin_zero]
    have e1 : sumF (fun k => bin (n + 1) (k + 1) * a ^ (k + 1)) (n + 1) = sumF (fun k => a * (bin n k * a ^ k) + bin n (k + 1) * a ^ (k + 1)) (n + 1) := by
      refine sumF_congr _ fun k _ => ?_
      rw [bin_succ, Nat.add_mul, Nat.pow_succ]
      congr 1
      rw [← Nat.mul_assoc, Nat.mul_comm a]
    have e2 : sumF (fun k => bin n k * a ^ k) (n + 1 + 1) = 1 * a ^ 0 + sumF (fun k => bin n (k + 1) * a ^ (k + 1)) (n + 1) := by
      rw [sumF_shift, bin_zero]
    have e3 : sumF (fun k => bin n k * a ^ k) (n + 1 + 1) = sumF (fun k => bin n k * a ^ k) (n + 1) := by
      rw [sumF, bin_over n (n + 1) (by omega)]; omega
    rw [e1, sumF_add, sumF_mul, Nat.pow_succ, ih, Nat.mul_add, Nat.mul_one, Nat.mul_comm _ a]
    omega
theorem Prm.bin {p k : Nat} (h : Prm p) (hk : k + 1 < p) : p ∣ Go.Proofs.YtelppapkffjmpaaDoor.bin p (k + 1) := by
  obtain ⟨n, rfl⟩ : ∃ n, p = n + 1 := ⟨p - 1, by have := h.1; omega⟩
  have e := bin_mul n k
  rcases h.euclid (a := k + 1) (b := Go.Proofs.YtelppapkffjmpaaDoor.bin (n + 1) (k + 1)) ⟨_, e⟩ with d | d
  · exact absurd (Nat.le_of_dvd (by omega) d) (by omega)
  · exact d
theorem Prm.fresh {p : Nat} (h : Prm p) (a : Nat) : (a + 1) ^ p % p = (a ^ p + 1) % p := by
  have hp := h.1
  rw [binom, sumF_shift, bin_zero]
  obtain ⟨n, hn⟩ : ∃ n, p = n + 1 := ⟨p - 1, by omega⟩
  have e : sumF (fun k => Go.Proofs.YtelppapkffjmpaaDoor.bin p (k + 1) * a ^ (k + 1)) p = sumF (fun k => Go.Proofs.YtelppapkffjmpaaDoor.bin p (k + 1) * a ^ (k + 1)) n + a ^ p := by
    conv => lhs; rw [hn]
    rw [sumF, ← hn, bin_self, Nat.one_mul]
  rw [e]
  obtain ⟨c, hc⟩ := sumF_dvd (p := p) (f := fun k => Go.Proofs.YtelppapkffjmpaaDoor.bin p (k + 1) * a ^ (k + 1)) n (fun k hk => Nat.dvd_trans (h.bin (by omega)) (Nat.dvd_mul_right _ _))
  rw [hc]
  have : 1 * a ^ 0 + (p * c + a ^ p) = a ^ p + 1 + p * c := by simp; omega
  rw [this, Nat.add_mul_mod_self_left]
theorem Prm.fermat0 {p : Nat} (h : Prm p) : ∀ a, a ^ p % p = a % p
  | 0 => by
    have hp := h.1
    rw [Nat.zero_pow (by omega)]
  | a + 1 => by
    rw [h.fresh, Nat.add_mod, h.fermat0 a, ← Nat.add_mod]
theorem mod_eq_dvd {n a b : Nat} (hab : b ≤ a) : a % n = b % n ↔ n ∣ a - b := by
  constructor
  · intro h
    have ha := Nat.div_add_mod a n
    have hb := Nat.div_add_mod b n
    refine ⟨a / n - b / n, ?_⟩
    rw [Nat.mul_sub]; omega
  · rintro ⟨c, hc⟩
    have : a = b + n * c := by omega
    rw [this, Nat.add_mul_mod_self_left]
theorem Prm.fermat {p a : Nat} (h : Prm p) (ha : ¬ p ∣ a) : a ^ (p - 1) % p = 1 % p := by
  have hp := h.1
  have h0 := h.fermat0 a
  have ha0 : 0 < a := Nat.pos_of_ne_zero fun e => ha (e ▸ Nat.dvd_zero p)
  have e : a ^ p = a * a ^ (p - 1) := by
    conv => lhs; rw [show p = p - 1 + 1 by omega]
    rw [Nat.pow_succ, Nat.mul_comm]
  have h1 : 1 ≤ a ^ (p - 1) := Nat.pow_pos ha0
  have h2 : a ≤ a ^ p := by rw [e]; exact Nat.le_mul_of_pos_right _ h1
  have h3 := (mod_eq_dvd h2).1 h0
  rw [e, show a * a ^ (p - 1) - a = a * (a ^ (p - 1) - 1) by rw [Nat.mul_sub, Nat.mul_one]] at h3
  rcases h.euclid h3 with d | d
  · exact absurd d ha
  · exact (mod_eq_dvd h1).2 d
theorem pow_mul_one {r b m : Nat} (hm : b ^ m % r = 1 % r) (k : Nat) : b ^ (m * k) % r = 1 % r := by
  rw [Nat.pow_mul, Nat.pow_mod, hm, ← Nat.pow_mod, Nat.one_pow]
theorem pow_gcd {r b : Nat} (m n : Nat) (hm : b ^ m % r = 1 % r) (hn : b ^ n % r = 1 % r) : b ^ (Nat.gcd m n) % r = 1 % r := by
  revert hm hn
  refine Nat.gcd.induction (P := fun m n => b ^ m % r = 1 % r → b ^ n % r = 1 % r → b ^ (Nat.gcd m n) % r = 1 % r) m n ?_ ?_
  · intro n h1 h2; rw [Nat.gcd_zero_left]; exact h2
  · intro m n hm ih h1 h2
    rw [Nat.gcd_rec]
    refine ih ?_ h1
    have e := Nat.div_add_mod n m
    rw [← e, Nat.pow_add, Nat.mul_mod, pow_mul_one h1, ← Nat.mul_mod, Nat.one_mul] at h2
    exact h2
theorem prime_in : ∀ n, 2 ≤ n → ∃ r, Prm r ∧ r ∣ n := by
  intro n
  refine Nat.strongRecOn (motive := fun n => 2 ≤ n → ∃ r, Prm r ∧ r ∣ n) n ?_
  intro n ih hn
  by_cases hp : Prm n
  · exact ⟨n, hp, Nat.dvd_refl n⟩
  · have : ∃ d, d ∣ n ∧ d ≠ 1 ∧ d ≠ n := by
      refine Classical.byContradiction fun hno => hp ⟨hn, fun d hd => ?_⟩
      refine Classical.byContradiction fun hd2 => hno ⟨d, hd, ?_, ?_⟩
      · exact fun e => hd2 (.inl e)
      · exact fun e => hd2 (.inr e)
    obtain ⟨d, hd, h1, h2⟩ := this
    have hle := Nat.le_of_dvd (by omega) hd
    have h0 : d ≠ 0 := by rintro rfl; obtain ⟨c, hc⟩ := hd; omega
    obtain ⟨r, hr, hrd⟩ := ih d (by omega) (by omega)
    exact ⟨r, hr, Nat.dvd_trans hrd hd⟩
theorem pock {N F : Nat} (hN : 2 ≤ N) (h : N < (F + 1) * (F + 1)) (hF : ∀ r, Prm r → r ∣ N → F ∣ r - 1) : Prm N := by
  refine Classical.byContradiction fun hp => ?_
  have : ∃ d, d ∣ N ∧ d ≠ 1 ∧ d ≠ N := by
    refine Classical.byContradiction fun hno => hp ⟨hN, fun d hd => ?_⟩
    refine Classical.byContradiction fun hd2 => hno ⟨d, hd, fun e => hd2 (.inl e), fun e => hd2 (.inr e)⟩
  obtain ⟨d, ⟨e, he⟩, h1, h2⟩ := this
  have hd0 : d ≠ 0 := by rintro rfl; simp at he; omega
  have he0 : e ≠ 0 := by rintro rfl; simp at he; omega
  have he1 : e ≠ 1 := by rintro rfl; simp at he; omega
  have big : ∀ x, 2 ≤ x → x ∣ N → F + 1 ≤ x := by
    intro x hx hxN
    obtain ⟨r, hr, hrx⟩ := prime_in x hx
    have hle := Nat.le_of_dvd (by omega) hrx
    have h3 := hF r hr (Nat.dvd_trans hrx hxN)
    have h4 := Nat.le_of_dvd (by have := hr.1; omega) h3
    omega
  have b1 := big d (by omega) ⟨e, he⟩
  have b2 := big e (by omega) ⟨d, by rw [he, Nat.mul_comm]⟩
  have := Nat.mul_le_mul b1 b2
  omega
/-- A prime q that each prime in N lies above, by a number b of the order q. -/
theorem order_in {N q b : Nat} (hq : Prm q) (hb : b ^ q % N = 1 % N) (hg : Nat.gcd (b - 1) N = 1) (hb1 : 1 ≤ b) : ∀ r, Prm r → r ∣ N → q ∣ r - 1 := by
  intro r hr hrN
  have h1 : b ^ q % r = 1 % r := by
    rw [← Nat.mod_mod_of_dvd (b ^ q) hrN, hb, Nat.mod_mod_of_dvd _ hrN]
  have hrb : ¬ r ∣ b := by
    intro hd
    have h0 : b ^ q % r = 0 := Nat.mod_eq_zero_of_dvd (Nat.dvd_trans hd (by
      have := hq.1
      rw [show q = q - 1 + 1 by omega, Nat.pow_succ]; exact Nat.dvd_mul_left _ _))
    have := hr.1
    rw [h0, Nat.mod_eq_of_lt (by omega)] at h1
    omega
  have h2 := hr.fermat hrb
  have h3 := pow_gcd q (r - 1) h1 h2
  rcases hq.2 _ (Nat.gcd_dvd_left q (r - 1)) with e | e
  · rw [e, Nat.pow_one] at h3
    have h4 := (mod_eq_dvd hb1).1 h3
    have h5 := Nat.dvd_gcd h4 hrN
    rw [hg] at h5
    have := Nat.le_of_dvd (by omega) h5
    have := hr.1
    omega
  · exact e ▸ Nat.gcd_dvd_right q (r - 1)
theorem two_in {q s m : Nat} (hq : Prm q) (hs : Prm s) (hne : q ≠ s) (h1 : q ∣ m) (h2 : s ∣ m) : q * s ∣ m := by
  obtain ⟨c, rfl⟩ := h1
  rcases hs.euclid h2 with d | d
  · rcases hq.2 s d with e | e
    · have := hs.1; omega
    · exact absurd e.symm hne
  · exact Nat.mul_dvd_mul_left q d
/-- No divisor from d on, as far as the square goes. -/
def chk (n : Nat) : Nat → Nat → Bool
  | 0, _ => false
  | f + 1, d => if n < d * d then true else if n % d = 0 then false else chk n f (d + 1)
theorem chk_sound (n : Nat) : ∀ f d, chk n f d = true → ∀ e, d ≤ e → e * e ≤ n → ¬ e ∣ n
  | 0, _, h => by simp [chk] at h
  | f + 1, d, h => by
    intro e hde he hdv
    unfold chk at h
    split at h
    · rename_i hlt
      have := Nat.mul_le_mul hde hde
      omega
    · split at h
      · simp at h
      · rename_i h0
        by_cases hed : e = d
        · subst hed; exact h0 (Nat.mod_eq_zero_of_dvd hdv)
        · exact chk_sound n f (d + 1) h e (by omega) he hdv
theorem Prm.small {n f : Nat} (hn : 2 ≤ n) (h : chk n f 2 = true) : Prm n := by
  refine ⟨hn, fun d hd => ?_⟩
  obtain ⟨e, he⟩ := hd
  refine Classical.byContradiction fun hno => ?_
  have hd0 : d ≠ 0 := by rintro rfl; simp at he; omega
  have he0 : e ≠ 0 := by rintro rfl; simp at he; omega
  have he1 : e ≠ 1 := by rintro rfl; simp at he; omega
  have hd1 : d ≠ 1 := fun e => hno (.inl e)
  rcases Nat.le_total d e with hle | hle
  · exact chk_sound n f 2 h d (by omega) (by rw [he]; exact Nat.mul_le_mul_left d hle) ⟨e, he⟩
  · exact chk_sound n f 2 h e (by omega) (by rw [he]; exact Nat.mul_le_mul_right e hle) ⟨d, by rw [he, Nat.mul_comm]⟩

/-- A power modulo p by squaring. -/
def pmo (p u : Nat) : Nat → Nat → Nat
  | 0, _ => 1 % p
  | f + 1, e => (match e % 2 with | 0 => 1 | _ => u) * (pmo p u f (e / 2) * pmo p u f (e / 2) % p) % p
theorem pmo_eq (p u : Nat) : ∀ f e, e < 2 ^ f → pmo p u f e = u ^ e % p
  | 0, e, h => by
    obtain rfl : e = 0 := by simpa using h
    rfl
  | f + 1, e, h => by
    have ih := pmo_eq p u f (e / 2) (by rw [Nat.pow_succ] at h; omega)
    have h2 : e = e / 2 + e / 2 + e % 2 := by omega
    unfold pmo
    rw [ih]
    generalize hk : e / 2 = k at *
    have hm : e % 2 = 0 ∨ e % 2 = 1 := by omega
    have key : u ^ k % p * (u ^ k % p) % p = u ^ (k + k) % p := by rw [← Nat.mul_mod, ← Nat.pow_add]
    rw [key]
    rcases hm with h0 | h1
    · rw [h0] at h2 ⊢
      subst h2
      simp only [Nat.add_zero]
      rw [Nat.one_mul, Nat.mod_mod]
    · rw [h1] at h2 ⊢
      subst h2
      show u * (u ^ (k + k) % p) % p = u ^ (k + k + 1) % p
      rw [Nat.mul_mod, Nat.mod_mod, ← Nat.mul_mod, Nat.pow_succ, Nat.mul_comm]

theorem Prm.certify {N q b f : Nat} (hq : Prm q) (hf : q < 2 ^ f) (h : (decide (pmo N b f q = 1 % N) && decide (Nat.gcd (b - 1) N = 1) && decide (1 ≤ b)) = true) : ∀ r, Prm r → r ∣ N → q ∣ r - 1 := by
  simp only [Bool.and_eq_true, decide_eq_true_eq] at h
  exact order_in hq (by rw [← pmo_eq N b f q hf]; exact h.1.1) h.1.2 h.2
theorem prm_s0 : Prm 8574133 := Prm.small (f := 2931) (by decide) (by decide +kernel)
theorem prm_s1 : Prm 127 := Prm.small (f := 14) (by decide) (by decide +kernel)
theorem prm_s2 : Prm 75707 := Prm.small (f := 278) (by decide) (by decide +kernel)
theorem prm_s3 : Prm 1923133 := Prm.small (f := 1389) (by decide) (by decide +kernel)
theorem prm_q3 : Prm 1919519569386763 := by
  refine pock (F := 8574133 * 127) (by decide) (by decide +kernel) fun r hr hd => ?_
  refine two_in prm_s0 prm_s1 (by decide) ?_ ?_
  · exact Prm.certify (b := 1059928654987441) (f := 24) prm_s0 (by decide +kernel) (by decide +kernel) r hr hd
  · exact Prm.certify (b := 576774792492622) (f := 7) prm_s1 (by decide +kernel) (by decide +kernel) r hr hd
theorem prm_q2 : Prm 75445702479781427272750846543864801 := by
  refine pock (F := 1919519569386763 * 75707) (by decide) (by decide +kernel) fun r hr hd => ?_
  refine two_in prm_q3 prm_s2 (by decide) ?_ ?_
  · exact Prm.certify (b := 56747016255153332959347766392083459) (f := 51) prm_q3 (by decide +kernel) (by decide +kernel) r hr hd
  · exact Prm.certify (b := 58781699294900834553279248901967638) (f := 17) prm_s2 (by decide +kernel) (by decide +kernel) r hr hd
theorem prm_q1 : Prm 74058212732561358302231226437062788676166966415465897661863160754340907 := by
  refine pock (F := 75445702479781427272750846543864801 * 1923133) (by decide) (by decide +kernel) fun r hr hd => ?_
  refine two_in prm_q2 prm_s3 (by decide) ?_ ?_
  · exact Prm.certify (b := 69490809710348678725736597923071784769591275419387514694139338586948360) (f := 116) prm_q2 (by decide +kernel) (by decide +kernel) r hr hd
  · exact Prm.certify (b := 52266576830164329332527201090776533817489900267135412990654516667243924) (f := 21) prm_s3 (by decide +kernel) (by decide +kernel) r hr hd
theorem prm_p : Prm 57896044618658097711785492504343953926634992332820282019728792003956564819949 := by
  refine pock (F := 74058212732561358302231226437062788676166966415465897661863160754340907) (by decide) (by decide +kernel) ?_
  exact Prm.certify (b := 427094198651976259540344842774561673889945192655078505504941250475370961481) (f := 236) prm_q1 (by decide +kernel) (by decide +kernel)
end Go.Proofs.YtelppapkffjmpaaDoor
end
section
namespace Go.Proofs.YtelppapkffjmpaaDoor
open Go.RowKit Go.Shelf
set_option linter.unusedVariables false
set_option maxRecDepth 8000

theorem mm1 (x y p : Int) : (x % p * y) % p = x * y % p := by rw [Int.mul_emod, Int.emod_emod_of_dvd _ (Int.dvd_refl _), ← Int.mul_emod]
theorem mm2 (x y p : Int) : (x * (y % p)) % p = x * y % p := by rw [Int.mul_emod, Int.emod_emod_of_dvd _ (Int.dvd_refl _), ← Int.mul_emod]
theorem pow_emod (u p : Int) : ∀ n : Nat, (u % p) ^ n % p = u ^ n % p
  | 0 => by rw [Int.pow_zero, Int.pow_zero]
  | n + 1 => by rw [Int.pow_succ, Int.pow_succ, mm2, ← mm1, pow_emod u p n, mm1]
theorem pN_prime : Prm pN := prm_p
/-- Fermat, for whole numbers. -/
theorem fermat_pV (u : Int) (h : u % pV ≠ 0) : u ^ (pN - 1) % pV = 1 := by
  have hu := pV_mod u
  have e : u ^ (pN - 1) % pV = (u % pV) ^ (pN - 1) % pV := (pow_emod u pV _).symm
  rw [e]
  generalize u % pV = v at *
  obtain ⟨n, rfl⟩ := Int.eq_ofNat_of_zero_le hu.1
  rw [pV_nat] at hu ⊢
  have hn : ¬ pN ∣ n := fun hd => by
    have := Nat.le_of_dvd (by omega) hd
    omega
  have hf := pN_prime.fermat hn
  rw [← Int.natCast_pow, ← Int.natCast_emod, hf]
  decide +kernel
theorem invN_eq : (valB (powN 235 127) 32).toNat = pN - 2 := by decide +kernel
end Go.Proofs.YtelppapkffjmpaaDoor
end
section
namespace Go.Proofs.YtelppapkffjmpaaDoor
open Go.RowKit Go.Shelf
set_option linter.unusedVariables false
set_option maxRecDepth 100000

theorem euclid_pV {a b : Int} (h : a * b % pV = 0) : a % pV = 0 ∨ b % pV = 0 := by
  have hd := Int.natAbs_dvd_natAbs.2 (Int.dvd_of_emod_eq_zero h)
  rw [Int.natAbs_mul, pV_nat, Int.natAbs_natCast] at hd
  rcases pN_prime.euclid hd with d | d
  · left
    rw [pV_nat]
    exact Int.emod_eq_zero_of_dvd (Int.natAbs_dvd_natAbs.1 (by rw [Int.natAbs_natCast]; exact d))
  · right
    rw [pV_nat]
    exact Int.emod_eq_zero_of_dvd (Int.natAbs_dvd_natAbs.1 (by rw [Int.natAbs_natCast]; exact d))
theorem sub_zero_iff (a b p : Int) : a % p = b % p ↔ (a - b) % p = 0 := Int.emod_eq_emod_iff_emod_sub_eq_zero
/-- (p - 1) / 4. -/
def kN : Nat := 14474011154664524427946373126085988481658748083205070504932198000989141204987
theorem kN_rt : (valB (powN 254 15) 32).toNat + (valB (powN 254 15) 32).toNat = kN + 1 := by rw [rtN_eq]; decide +kernel
theorem kN_p : kN + kN + (kN + kN) = pN - 1 := by decide +kernel
theorem iV_sq : iV * iV % pV = (-1) % pV := by decide +kernel
theorem rt0_sq (u : Int) : rt0 u * rt0 u % pV = u ^ kN * u % pV := by
  unfold rt0
  rw [← Int.mul_emod, ← Int.pow_add, kN_rt, Int.pow_succ]
theorem rt1_sq (u : Int) : rt1 u * rt1 u % pV = -(u ^ kN * u) % pV := by
  have h : rt1 u * rt1 u % pV = (rt0 u * rt0 u % pV) * (iV * iV % pV) % pV := by
    unfold rt1
    rw [← Int.mul_emod, ← Int.mul_emod]
    congr 1
    grind
  rw [h, rt0_sq, iV_sq, ← Int.mul_emod]
  congr 1
  grind
theorem sq0_iff {u : Int} (hu : 0 ≤ u ∧ u < pV) (h0 : u ≠ 0) : sq0 u = true ↔ (u ^ kN - 1) % pV = 0 := by
  unfold sq0
  rw [decide_eq_true_iff, rt0_sq]
  conv => lhs; rhs; rw [← Int.emod_eq_of_lt hu.1 hu.2]
  rw [sub_zero_iff, show u ^ kN * u - u = (u ^ kN - 1) * u by grind]
  constructor
  · intro h
    rcases euclid_pV h with h | h
    · exact h
    · rw [Int.emod_eq_of_lt hu.1 hu.2] at h; exact absurd h h0
  · intro h
    rw [← mm1, h, Int.zero_mul]; rfl
theorem sq1_iff {u : Int} (hu : 0 ≤ u ∧ u < pV) (h0 : u ≠ 0) : sq1 u = true ↔ (u ^ kN + 1) % pV = 0 := by
  unfold sq1
  rw [decide_eq_true_iff, rt1_sq]
  conv => lhs; rhs; rw [← Int.emod_eq_of_lt hu.1 hu.2]
  rw [eq_comm, sub_zero_iff, show u - -(u ^ kN * u) = (u ^ kN + 1) * u by grind]
  constructor
  · intro h
    rcases euclid_pV h with h | h
    · exact h
    · rw [Int.emod_eq_of_lt hu.1 hu.2] at h; exact absurd h h0
  · intro h
    rw [← mm1, h, Int.zero_mul]; rfl
theorem okV_iff {u : Int} (hu : 0 ≤ u ∧ u < pV) (h0 : u ≠ 0) : okV u = true ↔ u ^ (kN + kN) % pV = 1 := by
  have e1 : (1 : Int) = 1 % pV := by decide +kernel
  unfold okV
  rw [Bool.or_eq_true, sq0_iff hu h0, sq1_iff hu h0]
  conv => rhs; rhs; rw [e1]
  rw [sub_zero_iff, Int.pow_add, show u ^ kN * u ^ kN - 1 = (u ^ kN - 1) * (u ^ kN + 1) by grind]
  constructor
  · rintro (h | h)
    · rw [← mm1, h, Int.zero_mul]; rfl
    · rw [← mm2, h, Int.mul_zero]; rfl
  · exact euclid_pV
theorem okV_zero : okV 0 = true := by
  unfold okV sq0 rt0
  rw [rtN_eq, Int.zero_pow (by decide +kernel)]
  decide +kernel
theorem even_or (c : Int) : evenV c = c ∨ evenV c = (0 - c) % pV := by unfold evenV; split <;> simp
theorem even_sq {c : Int} : evenV c * evenV c % pV = c * c % pV := by
  rcases even_or c with h | h
  · rw [h]
  · rw [h, mm1, mm2]; congr 1; grind
theorem rV_sq {u : Int} (hok : okV u = true) : rV u * rV u % pV = u := by
  unfold rV
  unfold okV at hok
  by_cases h : sq0 u = true
  · rw [if_pos h, even_sq]; simpa [sq0] using h
  · rw [if_neg h]
    have h1 : sq1 u = true := by simpa [h] using hok
    rw [if_pos h1, even_sq]; simpa [sq1] using h1
theorem rt0_lt (u : Int) : 0 ≤ rt0 u ∧ rt0 u < pV := pV_mod _
theorem rt1_lt (u : Int) : 0 ≤ rt1 u ∧ rt1 u < pV := pV_mod _
theorem even_lt {c : Int} (h : 0 ≤ c ∧ c < pV) : 0 ≤ evenV c ∧ evenV c < pV := by
  rcases even_or c with e | e
  · rw [e]; exact h
  · rw [e]; exact pV_mod _
theorem even_even {c : Int} (h : 0 ≤ c ∧ c < pV) : evenV c % 2 = 0 := by
  unfold evenV
  split
  · next h1 =>
    have hp : pV % 2 = 1 := by decide +kernel
    have e : (0 - c) % pV = 0 - c + pV := by rw [← Int.add_emod_right (0 - c) pV, Int.emod_eq_of_lt (by omega) (by omega)]
    rw [e]; omega
  · omega
theorem rV_lt (u : Int) : 0 ≤ rV u ∧ rV u < pV := by
  unfold rV
  split
  · exact even_lt (rt0_lt u)
  · split
    · exact even_lt (rt1_lt u)
    · decide +kernel
theorem rV_even (u : Int) : rV u % 2 = 0 := by
  unfold rV
  split
  · exact even_even (rt0_lt u)
  · split
    · exact even_even (rt1_lt u)
    · rfl
/-- A square has a root. -/
theorem ok_square (u : Int) : okV (u * u % pV) = true := by
  by_cases h : u % pV = 0
  · have : u * u % pV = 0 := by rw [← mm1, h, Int.zero_mul]; rfl
    rw [this]; exact okV_zero
  · have h2 : u * u % pV ≠ 0 := fun e => by
      rcases euclid_pV e with e | e <;> exact h e
    refine (okV_iff (pV_mod _) h2).2 ?_
    rw [pow_emod, Int.mul_pow, ← Int.pow_add, kN_p]
    exact fermat_pV u h
end Go.Proofs.YtelppapkffjmpaaDoor
end
section
namespace Go.Proofs.YtelppapkffjmpaaDoor
set_option linter.unusedVariables false
set_option maxRecDepth 100000

instance instPN : NeZero pN := ⟨by decide +kernel⟩
/-- Numbers modulo p. -/
abbrev FF := Fin pN
theorem FF.dvd {a : FF} (h : pN ∣ a.val) : a = 0 := by
  have hl := a.isLt
  have h0 : a.val = 0 := Nat.eq_zero_of_dvd_of_lt h hl
  exact Fin.ext h0
theorem mulz {a b : FF} (h : a*b = 0) : a = 0 ∨ b = 0 := by
  have hv : (a*b).val = 0 := by rw [h]; rfl
  rw [Fin.val_mul] at hv
  rcases pN_prime.euclid (Nat.dvd_of_mod_eq_zero hv) with d | d
  · exact .inl (FF.dvd d)
  · exact .inr (FF.dvd d)
/-- An inverse, by Fermat. -/
def finv (a : FF) : FF := ⟨a.val ^ (pN - 2) % pN, Nat.mod_lt _ (by decide +kernel)⟩
theorem mul_finv {a : FF} (h : a ≠ 0) : a*finv a = 1 := by
  have hn : ¬ pN ∣ a.val := fun d => h (FF.dvd d)
  have hf := pN_prime.fermat hn
  apply Fin.ext
  rw [Fin.val_mul]
  show a.val * (a.val ^ (pN - 2) % pN) % pN = 1
  rw [Nat.mul_mod, Nat.mod_mod, ← Nat.mul_mod, Nat.mul_comm, ← Nat.pow_succ, show (pN - 2).succ = pN - 1 by decide +kernel, hf]
  decide +kernel
def dF : FF := 37095705934669439343138083508754565189542113879843219016388785533085940283555
def eF : FF := 29203323570479832313932222820853031755424015489030106335172286495629888845891
def iF : FF := 19681161376707505956807079304988542015446066515923890162744021073123829784752
theorem dF_eF : dF*eF = 1 := by decide +kernel
theorem dF_euler : dF.val ^ ((pN - 1) / 2) % pN = pN - 1 := by
  have h := pmo_eq pN dF.val 256 ((pN - 1) / 2) (by decide +kernel)
  rw [← h]
  decide +kernel
theorem dF_no (s : FF) : s*s ≠ dF := by
  intro h
  have hs : s ≠ 0 := by rintro rfl; exact absurd h (by decide +kernel)
  have hn : ¬ pN ∣ s.val := fun d => hs (FF.dvd d)
  have hf := pN_prime.fermat hn
  have he := dF_euler
  rw [← h, Fin.val_mul, ← Nat.pow_mod, Nat.mul_pow, ← Nat.pow_add, show (pN - 1) / 2 + (pN - 1) / 2 = pN - 1 by decide +kernel, hf] at he
  exact absurd he (by decide +kernel)
def On (d x y : FF) : Prop := y*y - x*x = 1 + d*(x*x)*(y*y)
theorem on_form {d e x y : FF} (hde : d*e = 1) (h : On d x y) : x*x*(y*y) = e*(y*y - x*x - 1) := by unfold On at h; grobner
theorem on_cross {d e x1 y1 x2 y2 : FF} (hde : d*e = 1) (h1 : x1*x1*(y1*y1) = e*(y1*y1 - x1*x1 - 1)) (h2 : x2*x2*(y2*y2) = e*(y2*y2 - x2*x2 - 1)) (t m n : FF) (ht : t = d*x1*x2*y1*y2) (hm : m = x1*y2+x2*y1) (hn : n = y1*y2+x1*x2) :
   (n*(1+t))*(n*(1+t)) - (m*(1-t))*(m*(1-t)) = ((1+t)*(1-t))*((1+t)*(1-t)) + d*(m*n)*(m*n) := by
  subst ht hm hn; grobner
theorem on_add {d m n t a b : FF} (hk : (n*(1+t))*(n*(1+t)) - (m*(1-t))*(m*(1-t)) = ((1+t)*(1-t))*((1+t)*(1-t)) + d*(m*n)*(m*n)) (ha : a*(1+t) = 1) (hb : b*(1-t) = 1) : On d (m*a) (n*b) := by
  unfold On
  have e1 : n*b*(n*b) = (n*(1+t))*(n*(1+t)) * (a*b*(a*b)) := by grobner
  have e2 : m*a*(m*a) = (m*(1-t))*(m*(1-t)) * (a*b*(a*b)) := by grobner
  have e3 : ((1+t)*(1-t))*((1+t)*(1-t)) * (a*b*(a*b)) = 1 := by grobner
  grobner
theorem key1 {d e x1 y1 x2 y2 i ε : FF} (hde : d*e=1) (h1 : x1*x1*(y1*y1) = e*(y1*y1 - x1*x1 - 1)) (h2 : x2*x2*(y2*y2) = e*(y2*y2 - x2*x2 - 1)) (hi : i*i = -1) (he : ε*ε = 1) (ht : d*x1*x2*y1*y2 = ε) :
  (i*x1 + ε*y1)*(i*x1 + ε*y1) = d*(x1*y1*(i*x2 + y2))*(x1*y1*(i*x2+y2)) := by
  grobner
theorem iF_sq : iF*iF = -1 := by decide +kernel
theorem canc {a b c : FF} (ha : a ≠ 0) (h : a*b = a*c) : b = c := by
  rcases mulz (a := a) (b := b - c) (by grobner) with h | h
  · exact absurd h ha
  · grobner
theorem complete {x1 y1 x2 y2 ε : FF} (h1 : On dF x1 y1) (h2 : On dF x2 y2) (he : ε*ε = 1) : dF*x1*x2*y1*y2 ≠ ε := by
  intro ht
  have k1 := on_form dF_eF h1
  have k2 := on_form dF_eF h2
  have hne : ε ≠ 0 := by rintro rfl; exact absurd he (by decide +kernel)
  have hx1 : x1 ≠ 0 := by rintro rfl; exact hne (by grobner)
  have hy1 : y1 ≠ 0 := by rintro rfl; exact hne (by grobner)
  have hx2 : x2 ≠ 0 := by rintro rfl; exact hne (by grobner)
  have hy2 : y2 ≠ 0 := by rintro rfl; exact hne (by grobner)
  have step : ∀ η : FF, η*η = 1 → ∀ v, (iF*x1 + η*y1)*(iF*x1 + η*y1) = dF*(x1*y1*v)*(x1*y1*v) → v = 0 := by
    intro η hη v hv
    refine Classical.byContradiction fun hv0 => ?_
    have hz : x1*y1*v ≠ 0 := fun e => by
      rcases mulz e with e | e
      · rcases mulz e with e | e
        · exact hx1 e
        · exact hy1 e
      · exact hv0 e
    have hi := mul_finv hz
    refine dF_no ((iF*x1 + η*y1)*finv (x1*y1*v)) ?_
    generalize x1*y1*v = z at *
    generalize iF*x1 + η*y1 = u at *
    generalize finv z = f at *
    have e1 : u*f*(u*f) = u*u*(f*f) := by grobner
    have e2 : dF*z*z*(f*f) = dF*(z*f)*(z*f) := by grobner
    rw [e1, hv, e2, hi]
    grobner
  have a1 := step ε he (iF*x2+y2) (key1 dF_eF k1 k2 iF_sq he ht)
  have a2 := step (-ε) (by grobner) (iF*x2-y2) (by have := key1 (ε := -ε) (y2 := -y2) (x2 := x2) (y1 := y1) (x1 := x1) dF_eF k1 (by grobner) iF_sq (by grobner) (by grobner); grobner)
  have h2 : (2 : FF)*y2 = 0 := by grobner
  rcases mulz h2 with h | h
  · exact absurd h (by decide +kernel)
  · exact hy2 h
theorem den1 {x1 y1 x2 y2 : FF} (h1 : On dF x1 y1) (h2 : On dF x2 y2) : 1 + dF*x1*x2*y1*y2 ≠ 0 := fun h => complete (ε := -1) h1 h2 (by decide +kernel) (by grobner)
theorem den2 {x1 y1 x2 y2 : FF} (h1 : On dF x1 y1) (h2 : On dF x2 y2) : 1 - dF*x1*x2*y1*y2 ≠ 0 := fun h => complete (ε := 1) h1 h2 (by decide +kernel) (by grobner)
structure Pt where
  x : FF
  y : FF
  on : On dF x y
theorem Pt.ext {P Q : Pt} (hx : P.x = Q.x) (hy : P.y = Q.y) : P = Q := by cases P; cases Q; simp_all
theorem inv1 {a : FF} (h : a ≠ 0) : finv a * a = 1 := by have := mul_finv h; grobner
def padd (P Q : Pt) : Pt where
  x := (P.x*Q.y + Q.x*P.y)*finv (1 + dF*P.x*Q.x*P.y*Q.y)
  y := (P.y*Q.y + P.x*Q.x)*finv (1 - dF*P.x*Q.x*P.y*Q.y)
  on := on_add (on_cross dF_eF (on_form dF_eF P.on) (on_form dF_eF Q.on) _ _ _ rfl rfl rfl) (inv1 (den1 P.on Q.on)) (inv1 (den2 P.on Q.on))
def pzero : Pt := ⟨0, 1, by unfold On; decide +kernel⟩
theorem padd_comm (P Q : Pt) : padd P Q = padd Q P := by
  apply Pt.ext
  · show (P.x*Q.y + Q.x*P.y)*finv (1 + dF*P.x*Q.x*P.y*Q.y) = (Q.x*P.y + P.x*Q.y)*finv (1 + dF*Q.x*P.x*Q.y*P.y)
    have e : dF*P.x*Q.x*P.y*Q.y = dF*Q.x*P.x*Q.y*P.y := by grobner
    rw [e]; grobner
  · show (P.y*Q.y + P.x*Q.x)*finv (1 - dF*P.x*Q.x*P.y*Q.y) = (Q.y*P.y + Q.x*P.x)*finv (1 - dF*Q.x*P.x*Q.y*P.y)
    have e : dF*P.x*Q.x*P.y*Q.y = dF*Q.x*P.x*Q.y*P.y := by grobner
    rw [e]; grobner
/-- What a sum is, by products. -/
theorem padd_x (P Q : Pt) : (padd P Q).x * (1 + dF*P.x*Q.x*P.y*Q.y) = P.x*Q.y + Q.x*P.y := by
  have h := inv1 (den1 P.on Q.on)
  show (P.x*Q.y + Q.x*P.y)*finv (1 + dF*P.x*Q.x*P.y*Q.y) * (1 + dF*P.x*Q.x*P.y*Q.y) = _
  generalize finv (1 + dF*P.x*Q.x*P.y*Q.y) = v at *
  generalize (1 + dF*P.x*Q.x*P.y*Q.y) = u at *
  grobner
theorem padd_y (P Q : Pt) : (padd P Q).y * (1 - dF*P.x*Q.x*P.y*Q.y) = P.y*Q.y + P.x*Q.x := by
  have h := inv1 (den2 P.on Q.on)
  show (P.y*Q.y + P.x*Q.x)*finv (1 - dF*P.x*Q.x*P.y*Q.y) * (1 - dF*P.x*Q.x*P.y*Q.y) = _
  generalize finv (1 - dF*P.x*Q.x*P.y*Q.y) = v at *
  generalize (1 - dF*P.x*Q.x*P.y*Q.y) = u at *
  grobner
/-- A sum is told by what it makes with its divisors. -/
theorem padd_is {P Q R : Pt} (hx : R.x * (1 + dF*P.x*Q.x*P.y*Q.y) = P.x*Q.y + Q.x*P.y) (hy : R.y * (1 - dF*P.x*Q.x*P.y*Q.y) = P.y*Q.y + P.x*Q.x) : padd P Q = R := by
  have h1 := padd_x P Q
  have h2 := padd_y P Q
  apply Pt.ext
  · exact canc (den1 P.on Q.on) (by rw [← hx] at h1; generalize 1 + dF*P.x*Q.x*P.y*Q.y = u at *; grobner)
  · exact canc (den2 P.on Q.on) (by rw [← hy] at h2; generalize 1 - dF*P.x*Q.x*P.y*Q.y = u at *; grobner)
theorem padd_zero (P : Pt) : padd P pzero = P := padd_is (by simp only [pzero]; grobner) (by simp only [pzero]; grobner)
theorem assoc_x {d e x1 y1 x2 y2 x3 y3 : FF} (h0 : d * e = 1) (h1 : x1*x1*(y1*y1) = e*(y1*y1 - x1*x1 - 1)) (h2 : x2*x2*(y2*y2) = e*(y2*y2 - x2*x2 - 1)) (h3 : x3*x3*(y3*y3) = e*(y3*y3 - x3*x3 - 1))
  (m n m' n' t s : FF) (hm : m = x1*y2+x2*y1) (hn : n = y1*y2+x1*x2) (ht : t = d*x1*x2*y1*y2) (hm' : m' = x2*y3+x3*y2) (hn' : n' = y2*y3+x2*x3) (hs : s = d*x2*x3*y2*y3) :
  (m*(1-t)*y3 + n*(1+t)*x3) * ((1+s)*(1-s) + d*m'*n'*x1*y1) = (m'*(1-s)*y1 + n'*(1+s)*x1) * ((1+t)*(1-t) + d*m*n*x3*y3) := by
  subst hm hn ht hm' hn' hs
  grobner
theorem assoc_y {d e x1 y1 x2 y2 x3 y3 : FF} (h0 : d * e = 1) (h1 : x1*x1*(y1*y1) = e*(y1*y1 - x1*x1 - 1)) (h2 : x2*x2*(y2*y2) = e*(y2*y2 - x2*x2 - 1)) (h3 : x3*x3*(y3*y3) = e*(y3*y3 - x3*x3 - 1))
  (m n m' n' t s : FF) (hm : m = x1*y2+x2*y1) (hn : n = y1*y2+x1*x2) (ht : t = d*x1*x2*y1*y2) (hm' : m' = x2*y3+x3*y2) (hn' : n' = y2*y3+x2*x3) (hs : s = d*x2*x3*y2*y3) :
  (n*(1+t)*y3 + m*(1-t)*x3) * ((1+s)*(1-s) - d*m'*n'*x1*y1) = (n'*(1+s)*y1 + m'*(1-s)*x1) * ((1+t)*(1-t) - d*m*n*x3*y3) := by
  subst hm hn ht hm' hn' hs
  grobner
theorem asm_x {s u A B x y r1 r2 : FF} (h : s*u = x*r2 + r1*y) : s*(A*B*u) = x*A*B*r2 + y*B*A*r1 := by
  have e : s*(A*B*u) = s*u*(A*B) := by grobner
  rw [e, h]; grobner
theorem asm_y {s u C D x y p1 p2 : FF} (h : s*u = p1*y + x*p2) : s*(C*D*u) = x*C*D*p2 + y*D*C*p1 := by
  have e : s*(C*D*u) = s*u*(C*D) := by grobner
  rw [e, h]; grobner
theorem asm_z {s u A B x y r1 r2 : FF} (h : s*u = y*r2 + x*r1) : s*(A*B*u) = y*B*A*r2 + x*A*B*r1 := by
  have e : s*(A*B*u) = s*u*(A*B) := by grobner
  rw [e, h]; grobner
theorem asm_w {s u C D x y p1 p2 : FF} (h : s*u = p2*y + p1*x) : s*(C*D*u) = y*D*C*p2 + x*C*D*p1 := by
  have e : s*(C*D*u) = s*u*(C*D) := by grobner
  rw [e, h]; grobner
theorem padd_assoc (P Q R : Pt) : padd (padd P Q) R = padd P (padd Q R) := by
  have k1 := on_form dF_eF P.on
  have k2 := on_form dF_eF Q.on
  have k3 := on_form dF_eF R.on
  have ax := assoc_x dF_eF k1 k2 k3 _ _ _ _ _ _ rfl rfl rfl rfl rfl rfl
  have ay := assoc_y dF_eF k1 k2 k3 _ _ _ _ _ _ rfl rfl rfl rfl rfl rfl
  have p1 := padd_x P Q
  have p2 := padd_y P Q
  have p3 := padd_x Q R
  have p4 := padd_y Q R
  have a1 := den1 P.on Q.on
  have a2 := den2 P.on Q.on
  have a3 := den1 Q.on R.on
  have a4 := den2 Q.on R.on
  have s1 := padd_x (padd P Q) R
  have s2 := padd_y (padd P Q) R
  have s3 := padd_x P (padd Q R)
  have s4 := padd_y P (padd Q R)
  have b1 := den1 (padd P Q).on R.on
  have b2 := den2 (padd P Q).on R.on
  have b3 := den1 P.on (padd Q R).on
  have b4 := den2 P.on (padd Q R).on
  have nz : ∀ {a b : FF}, a ≠ 0 → b ≠ 0 → a * b ≠ 0 := fun ha hb h => (mulz h).elim ha hb
  clear k1 k2 k3
  apply Pt.ext
  · generalize (padd (padd P Q) R).x = sx at *
    generalize (padd P (padd Q R)).x = tx at *
    generalize (padd P Q).x = x12 at *
    generalize (padd P Q).y = y12 at *
    generalize (padd Q R).x = x23 at *
    generalize (padd Q R).y = y23 at *
    clear s2 s4 ay b2 b4
    have h1 := nz (nz a1 a2) b1
    have h2 := nz (nz a3 a4) b3
    refine canc (nz h1 h2) ?_
    generalize hA : 1 + dF*P.x*Q.x*P.y*Q.y = A at *
    generalize hB : 1 - dF*P.x*Q.x*P.y*Q.y = B at *
    generalize hC : 1 + dF*Q.x*R.x*Q.y*R.y = C at *
    generalize hD : 1 - dF*Q.x*R.x*Q.y*R.y = D at *
    have e1 : A*B*(1 + dF*x12*R.x*y12*R.y) = A*B + dF*(P.x*Q.y+Q.x*P.y)*(P.y*Q.y+P.x*Q.x)*R.x*R.y := by rw [← p1, ← p2]; clear ax; grobner
    have e2 : C*D*(1 + dF*P.x*x23*P.y*y23) = C*D + dF*(Q.x*R.y+R.x*Q.y)*(Q.y*R.y+Q.x*R.x)*P.x*P.y := by rw [← p3, ← p4]; clear ax; grobner
    have e3 : sx*(A*B*(1 + dF*x12*R.x*y12*R.y)) = (P.x*Q.y+Q.x*P.y)*B*R.y + (P.y*Q.y+P.x*Q.x)*A*R.x := by
      rw [← p1, ← p2]
      exact asm_x s1
    have e4 : tx*(C*D*(1 + dF*P.x*x23*P.y*y23)) = (Q.x*R.y+R.x*Q.y)*D*P.y + (Q.y*R.y+Q.x*R.x)*C*P.x := by
      rw [← p3, ← p4]
      exact asm_y s3
    rw [← e3, ← e4, ← e1, ← e2] at ax
    generalize A*B*(1 + dF*x12*R.x*y12*R.y) = U at *
    generalize C*D*(1 + dF*P.x*x23*P.y*y23) = V at *
    clear e1 e2 e3 e4 s1 s3 p1 p2 p3 p4 hA hB hC hD
    grobner
  · generalize (padd (padd P Q) R).y = sx at *
    generalize (padd P (padd Q R)).y = tx at *
    generalize (padd P Q).x = x12 at *
    generalize (padd P Q).y = y12 at *
    generalize (padd Q R).x = x23 at *
    generalize (padd Q R).y = y23 at *
    clear s1 s3 ax b1 b3
    have h1 := nz (nz a1 a2) b2
    have h2 := nz (nz a3 a4) b4
    refine canc (nz h1 h2) ?_
    generalize hA : 1 + dF*P.x*Q.x*P.y*Q.y = A at *
    generalize hB : 1 - dF*P.x*Q.x*P.y*Q.y = B at *
    generalize hC : 1 + dF*Q.x*R.x*Q.y*R.y = C at *
    generalize hD : 1 - dF*Q.x*R.x*Q.y*R.y = D at *
    have e1 : A*B*(1 - dF*x12*R.x*y12*R.y) = A*B - dF*(P.x*Q.y+Q.x*P.y)*(P.y*Q.y+P.x*Q.x)*R.x*R.y := by rw [← p1, ← p2]; clear ay; grobner
    have e2 : C*D*(1 - dF*P.x*x23*P.y*y23) = C*D - dF*(Q.x*R.y+R.x*Q.y)*(Q.y*R.y+Q.x*R.x)*P.x*P.y := by rw [← p3, ← p4]; clear ay; grobner
    have e3 : sx*(A*B*(1 - dF*x12*R.x*y12*R.y)) = (P.y*Q.y+P.x*Q.x)*A*R.y + (P.x*Q.y+Q.x*P.y)*B*R.x := by
      rw [← p1, ← p2]
      exact asm_z s2
    have e4 : tx*(C*D*(1 - dF*P.x*x23*P.y*y23)) = (Q.y*R.y+Q.x*R.x)*C*P.y + (Q.x*R.y+R.x*Q.y)*D*P.x := by
      rw [← p3, ← p4]
      exact asm_w s4
    rw [← e3, ← e4, ← e1, ← e2] at ay
    generalize A*B*(1 - dF*x12*R.x*y12*R.y) = U at *
    generalize C*D*(1 - dF*P.x*x23*P.y*y23) = V at *
    clear e1 e2 e3 e4 s2 s4 p1 p2 p3 p4 hA hB hC hD
    grobner
theorem zero_padd (P : Pt) : padd pzero P = P := by rw [padd_comm, padd_zero]
/-- So many times a point. -/
def smul : Nat → Pt → Pt
  | 0, _ => pzero
  | k + 1, P => padd (smul k P) P
theorem smul_one (P : Pt) : smul 1 P = P := zero_padd P
theorem smul_add (a : Nat) (P : Pt) : ∀ b, smul (a + b) P = padd (smul a P) (smul b P)
  | 0 => (padd_zero _).symm
  | b + 1 => by
    show padd (smul (a + b) P) P = padd (smul a P) (padd (smul b P) P)
    rw [smul_add a P b, padd_assoc]
theorem smul_mul (a : Nat) (P : Pt) : ∀ b, smul (b * a) P = smul b (smul a P)
  | 0 => by rw [Nat.zero_mul]; rfl
  | b + 1 => by
    rw [Nat.succ_mul, smul_add, smul_mul a P b]; rfl
theorem smul_zero : ∀ k, smul k pzero = pzero
  | 0 => rfl
  | k + 1 => by
    show padd (smul k pzero) pzero = pzero
    rw [smul_zero k, padd_zero]
end Go.Proofs.YtelppapkffjmpaaDoor
end

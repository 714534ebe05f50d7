/- Primes: binomials, Fermat, Pocklington; 2^255 - 19 is one. No program stands here. -/
import Derived.Test.YtlhloldjlfcchaaDoorBase
namespace Go.Proofs.YtlhloldjlfcchaaDoor
set_option linter.unusedVariables false
set_option maxRecDepth 100000

/-- A prime. -/
def Prm (p : Nat) : Prop := 2 ≤ p ∧ ∀ d, d ∣ p → d = 1 ∨ d = p
theorem Prm.cop {p a : Nat} (h : Prm p) (ha : ¬ p ∣ a) : Nat.gcd p a = 1 := by
  rcases h.2 (Nat.gcd p a) (Nat.gcd_dvd_left p a) with e | e
  · exact e
  · exact absurd (e ▸ Nat.gcd_dvd_right p a) ha
theorem Prm.euclid {p a b : Nat} (h : Prm p) (hab : p ∣ a * b) : p ∣ a ∨ p ∣ b := by
  by_cases ha : p ∣ a
  · exact .inl ha
  · exact .inr (Nat.Coprime.dvd_of_dvd_mul_left (h.cop ha) hab)
/-- Binomials. -/
def bin : Nat → Nat → Nat
  | _, 0 => 1
  | 0, _ + 1 => 0
  | n + 1, k + 1 => bin n k + bin n (k + 1)
theorem bin_zero (n : Nat) : bin n 0 = 1 := by cases n <;> rfl
theorem bin_succ (n k : Nat) : bin (n + 1) (k + 1) = bin n k + bin n (k + 1) := rfl
theorem bin_mul : ∀ n k, (k + 1) * bin (n + 1) (k + 1) = (n + 1) * bin n k
  | 0, 0 => rfl
  | 0, k + 1 => by simp [bin]
  | n + 1, 0 => by
    have h := bin_mul n 0
    rw [bin_succ (n + 1) 0, bin_zero]
    rw [bin_zero] at h
    omega
  | n + 1, j + 1 => by
    have h1 := bin_mul n (j + 1)
    have h2 := bin_mul n j
    have h3 := bin_succ n j
    rw [bin_succ (n + 1) (j + 1)]
    have e1 : (j + 1 + 1) * (bin (n + 1) (j + 1) + bin (n + 1) (j + 1 + 1)) = (j + 1) * bin (n + 1) (j + 1) + bin (n + 1) (j + 1) + (j + 1 + 1) * bin (n + 1) (j + 1 + 1) := by
      rw [Nat.mul_add, Nat.add_mul (j + 1) 1, Nat.one_mul]
    rw [e1, h1, h2, Nat.add_mul (n + 1) 1, Nat.one_mul]
    have e2 : (n + 1) * bin (n + 1) (j + 1) = (n + 1) * bin n j + (n + 1) * bin n (j + 1) := by rw [h3, Nat.mul_add]
    omega
theorem bin_over : ∀ n k, n < k → bin n k = 0
  | 0, 0, h => by omega
  | 0, k + 1, _ => rfl
  | n + 1, 0, h => by omega
  | n + 1, k + 1, h => by rw [bin_succ, bin_over n k (by omega), bin_over n (k + 1) (by omega)]
theorem bin_self : ∀ n, bin n n = 1
  | 0 => rfl
  | n + 1 => by rw [bin_succ, bin_self n, bin_over n (n + 1) (by omega)]
/-- A sum of so many. -/
def sumF (f : Nat → Nat) : Nat → Nat
  | 0 => 0
  | n + 1 => sumF f n + f n
theorem sumF_shift (f : Nat → Nat) : ∀ n, sumF f (n + 1) = f 0 + sumF (fun k => f (k + 1)) n
  | 0 => by simp [sumF]
  | n + 1 => by
    rw [sumF, sumF_shift f n]
    show _ = f 0 + (sumF (fun k => f (k + 1)) n + f (n + 1))
    omega
theorem sumF_add (f g : Nat → Nat) : ∀ n, sumF (fun k => f k + g k) n = sumF f n + sumF g n
  | 0 => rfl
  | n + 1 => by simp only [sumF, sumF_add f g n]; omega
theorem sumF_mul (c : Nat) (f : Nat → Nat) : ∀ n, sumF (fun k => c * f k) n = c * sumF f n
  | 0 => rfl
  | n + 1 => by simp only [sumF, sumF_mul c f n, Nat.mul_add]
theorem sumF_congr {f g : Nat → Nat} : ∀ n, (∀ k, k < n → f k = g k) → sumF f n = sumF g n
  | 0, _ => rfl
  | n + 1, h => by rw [sumF, sumF, sumF_congr n (fun k hk => h k (by omega)), h n (by omega)]
theorem sumF_dvd {p : Nat} {f : Nat → Nat} : ∀ n, (∀ k, k < n → p ∣ f k) → p ∣ sumF f n
  | 0, _ => Nat.dvd_zero p
  | n + 1, h => Nat.dvd_add (sumF_dvd n (fun k hk => h k (by omega))) (h n (by omega))
theorem binom (a : Nat) : ∀ n, (a + 1) ^ n = sumF (fun k => bin n k * a ^ k) (n + 1)
  | 0 => rfl
  | n + 1 => by
    have ih := binom a n
    rw [sumF_shift, bin_zero]
    have e1 : sumF (fun k => bin (n + 1) (k + 1) * a ^ (k + 1)) (n + 1) = sumF (fun k => a * (bin n k * a ^ k) + bin n (k + 1) * a ^ (k + 1)) (n + 1) := by
      refine sumF_congr _ fun k _ => ?_
      rw [bin_succ, Nat.add_mul, Nat.pow_succ]
      congr 1
      rw [← Nat.mul_assoc, Nat.mul_comm a]
    have e2 : sumF (fun k => bin n k * a ^ k) (n + 1 + 1) = 1 * a ^ 0 + sumF (fun k => bin n (k + 1) * a ^ (k + 1)) (n + 1) := by
      rw [sumF_shift, bin_zero]
    have e3 : sumF (fun k => bin n k * a ^ k) (n + 1 + 1) = sumF (fun k => bin n k * a ^ k) (n + 1) := by
      rw [sumF, bin_over n (n + 1) (by omega)]; omega
    rw [e1, sumF_add, sumF_mul, Nat.pow_succ, ih, Nat.mul_add, Nat.mul_one, Nat.mul_comm _ a]
    omega
theorem Prm.bin {p k : Nat} (h : Prm p) (hk : k + 1 < p) : p ∣ Go.Proofs.YtlhloldjlfcchaaDoor.bin p (k + 1) := by
  obtain ⟨n, rfl⟩ : ∃ n, p = n + 1 := ⟨p - 1, by have := h.1; omega⟩
  have e := bin_mul n k
  rcases h.euclid (a := k + 1) (b := Go.Proofs.YtlhloldjlfcchaaDoor.bin (n + 1) (k + 1)) ⟨_, e⟩ with d | d
  · exact absurd (Nat.le_of_dvd (by omega) d) (by omega)
  · exact d
theorem Prm.fresh {p : Nat} (h : Prm p) (a : Nat) : (a + 1) ^ p % p = (a ^ p + 1) % p := by
  have hp := h.1
  rw [binom, sumF_shift, bin_zero]
  obtain ⟨n, hn⟩ : ∃ n, p = n + 1 := ⟨p - 1, by omega⟩
  have e : sumF (fun k => Go.Proofs.YtlhloldjlfcchaaDoor.bin p (k + 1) * a ^ (k + 1)) p = sumF (fun k => Go.Proofs.YtlhloldjlfcchaaDoor.bin p (k + 1) * a ^ (k + 1)) n + a ^ p := by
    conv => lhs; rw [hn]
    rw [sumF, ← hn, bin_self, Nat.one_mul]
  rw [e]
  obtain ⟨c, hc⟩ := sumF_dvd (p := p) (f := fun k => Go.Proofs.YtlhloldjlfcchaaDoor.bin p (k + 1) * a ^ (k + 1)) n (fun k hk => Nat.dvd_trans (h.bin (by omega)) (Nat.dvd_mul_right _ _))
  rw [hc]
  have : 1 * a ^ 0 + (p * c + a ^ p) = a ^ p + 1 + p * c := by simp; omega
  rw [this, Nat.add_mul_mod_self_left]
theorem Prm.fermat0 {p : Nat} (h : Prm p) : ∀ a, a ^ p % p = a % p
  | 0 => by
    have hp := h.1
    rw [Nat.zero_pow (by omega)]
  | a + 1 => by
    rw [h.fresh, Nat.add_mod, h.fermat0 a, ← Nat.add_mod]
theorem mod_eq_dvd {n a b : Nat} (hab : b ≤ a) : a % n = b % n ↔ n ∣ a - b := by
  constructor
  · intro h
    have ha := Nat.div_add_mod a n
    have hb := Nat.div_add_mod b n
    refine ⟨a / n - b / n, ?_⟩
    rw [Nat.mul_sub]; omega
  · rintro ⟨c, hc⟩
    have : a = b + n * c := by omega
    rw [this, Nat.add_mul_mod_self_left]
theorem Prm.fermat {p a : Nat} (h : Prm p) (ha : ¬ p ∣ a) : a ^ (p - 1) % p = 1 % p := by
  have hp := h.1
  have h0 := h.fermat0 a
  have ha0 : 0 < a := Nat.pos_of_ne_zero fun e => ha (e ▸ Nat.dvd_zero p)
  have e : a ^ p = a * a ^ (p - 1) := by
    conv => lhs; rw [show p = p - 1 + 1 by omega]
    rw [Nat.pow_succ, Nat.mul_comm]
  have h1 : 1 ≤ a ^ (p - 1) := Nat.pow_pos ha0
  have h2 : a ≤ a ^ p := by rw [e]; exact Nat.le_mul_of_pos_right _ h1
  have h3 := (mod_eq_dvd h2).1 h0
  rw [e, show a * a ^ (p - 1) - a = a * (a ^ (p - 1) - 1) by rw [Nat.mul_sub, Nat.mul_one]] at h3
  rcases h.euclid h3 with d | d
  · exact absurd d ha
  · exact (mod_eq_dvd h1).2 d
theorem pow_mul_one {r b m : Nat} (hm : b ^ m % r = 1 % r) (k : Nat) : b ^ (m * k) % r = 1 % r := by
  rw [Nat.pow_mul, Nat.pow_mod, hm, ← Nat.pow_mod, Nat.one_pow]
theorem pow_gcd {r b : Nat} (m n : Nat) (hm : b ^ m % r = 1 % r) (hn : b ^ n % r = 1 % r) : b ^ (Nat.gcd m n) % r = 1 % r := by
  revert hm hn
  refine Nat.gcd.induction (P := fun m n => b ^ m % r = 1 % r → b ^ n % r = 1 % r → b ^ (Nat.gcd m n) % r = 1 % r) m n ?_ ?_
  · intro n h1 h2; rw [Nat.gcd_zero_left]; exact h2
  · intro m n hm ih h1 h2
    rw [Nat.gcd_rec]
    refine ih ?_ h1
    have e := Nat.div_add_mod n m
    rw [← e, Nat.pow_add, Nat.mul_mod, pow_mul_one h1, ← Nat.mul_mod, Nat.one_mul] at h2
    exact h2
theorem prime_in : ∀ n, 2 ≤ n → ∃ r, Prm r ∧ r ∣ n := by
  intro n
  refine Nat.strongRecOn (motive := fun n => 2 ≤ n → ∃ r, Prm r ∧ r ∣ n) n ?_
  intro n ih hn
  by_cases hp : Prm n
  · exact ⟨n, hp, Nat.dvd_refl n⟩
  · have : ∃ d, d ∣ n ∧ d ≠ 1 ∧ d ≠ n := by
      refine Classical.byContradiction fun hno => hp ⟨hn, fun d hd => ?_⟩
      refine Classical.byContradiction fun hd2 => hno ⟨d, hd, ?_, ?_⟩
      · exact fun e => hd2 (.inl e)
      · exact fun e => hd2 (.inr e)
    obtain ⟨d, hd, h1, h2⟩ := this
    have hle := Nat.le_of_dvd (by omega) hd
    have h0 : d ≠ 0 := by rintro rfl; obtain ⟨c, hc⟩ := hd; omega
    obtain ⟨r, hr, hrd⟩ := ih d (by omega) (by omega)
    exact ⟨r, hr, Nat.dvd_trans hrd hd⟩
theorem pock {N F : Nat} (hN : 2 ≤ N) (h : N < (F + 1) * (F + 1)) (hF : ∀ r, Prm r → r ∣ N → F ∣ r - 1) : Prm N := by
  refine Classical.byContradiction fun hp => ?_
  have : ∃ d, d ∣ N ∧ d ≠ 1 ∧ d ≠ N := by
    refine Classical.byContradiction fun hno => hp ⟨hN, fun d hd => ?_⟩
    refine Classical.byContradiction fun hd2 => hno ⟨d, hd, fun e => hd2 (.inl e), fun e => hd2 (.inr e)⟩
  obtain ⟨d, ⟨e, he⟩, h1, h2⟩ := this
  have hd0 : d ≠ 0 := by rintro rfl; simp at he; omega
  have he0 : e ≠ 0 := by rintro rfl; simp at he; omega
  have he1 : e ≠ 1 := by rintro rfl; simp at he; omega
  have big : ∀ x, 2 ≤ x → x ∣ N → F + 1 ≤ x := by
    intro x hx hxN
    obtain ⟨r, hr, hrx⟩ := prime_in x hx
    have hle := Nat.le_of_dvd (by omega) hrx
    have h3 := hF r hr (Nat.dvd_trans hrx hxN)
    have h4 := Nat.le_of_dvd (by have := hr.1; omega) h3
    omega
  have b1 := big d (by omega) ⟨e, he⟩
  have b2 := big e (by omega) ⟨d, by rw [he, Nat.mul_comm]⟩
  have := Nat.mul_le_mul b1 b2
  omega
/-- A prime q that each prime in N lies above, by a number b of the order q. -/
theorem order_in {N q b : Nat} (hq : Prm q) (hb : b ^ q % N = 1 % N) (hg : Nat.gcd (b - 1) N = 1) (hb1 : 1 ≤ b) : ∀ r, Prm r → r ∣ N → q ∣ r - 1 := by
  intro r hr hrN
  have h1 : b ^ q % r = 1 % r := by
    rw [← Nat.mod_mod_of_dvd (b ^ q) hrN, hb, Nat.mod_mod_of_dvd _ hrN]
  have hrb : ¬ r ∣ b := by
    intro hd
    have h0 : b ^ q % r = 0 := Nat.mod_eq_zero_of_dvd (Nat.dvd_trans hd (by
      have := hq.1
      rw [show q = q - 1 + 1 by omega, Nat.pow_succ]; exact Nat.dvd_mul_left _ _))
    have := hr.1
    rw [h0, Nat.mod_eq_of_lt (by omega)] at h1
    omega
  have h2 := hr.fermat hrb
  have h3 := pow_gcd q (r - 1) h1 h2
  rcases hq.2 _ (Nat.gcd_dvd_left q (r - 1)) with e | e
  · rw [e, Nat.pow_one] at h3
    have h4 := (mod_eq_dvd hb1).1 h3
    have h5 := Nat.dvd_gcd h4 hrN
    rw [hg] at h5
    have := Nat.le_of_dvd (by omega) h5
    have := hr.1
    omega
  · exact e ▸ Nat.gcd_dvd_right q (r - 1)
theorem two_in {q s m : Nat} (hq : Prm q) (hs : Prm s) (hne : q ≠ s) (h1 : q ∣ m) (h2 : s ∣ m) : q * s ∣ m := by
  obtain ⟨c, rfl⟩ := h1
  rcases hs.euclid h2 with d | d
  · rcases hq.2 s d with e | e
    · have := hs.1; omega
    · exact absurd e.symm hne
  · exact Nat.mul_dvd_mul_left q d
/-- No divisor from d on, as far as the square goes. -/
def chk (n : Nat) : Nat → Nat → Bool
  | 0, _ => false
  | f + 1, d => if n < d * d then true else if n % d = 0 then false else chk n f (d + 1)
theorem chk_sound (n : Nat) : ∀ f d, chk n f d = true → ∀ e, d ≤ e → e * e ≤ n → ¬ e ∣ n
  | 0, _, h => by simp [chk] at h
  | f + 1, d, h => by
    intro e hde he hdv
    unfold chk at h
    split at h
    · rename_i hlt
      have := Nat.mul_le_mul hde hde
      omega
    · split at h
      · simp at h
      · rename_i h0
        by_cases hed : e = d
        · subst hed; exact h0 (Nat.mod_eq_zero_of_dvd hdv)
        · exact chk_sound n f (d + 1) h e (by omega) he hdv
theorem Prm.small {n f : Nat} (hn : 2 ≤ n) (h : chk n f 2 = true) : Prm n := by
  refine ⟨hn, fun d hd => ?_⟩
  obtain ⟨e, he⟩ := hd
  refine Classical.byContradiction fun hno => ?_
  have hd0 : d ≠ 0 := by rintro rfl; simp at he; omega
  have he0 : e ≠ 0 := by rintro rfl; simp at he; omega
  have he1 : e ≠ 1 := by rintro rfl; simp at he; omega
  have hd1 : d ≠ 1 := fun e => hno (.inl e)
  rcases Nat.le_total d e with hle | hle
  · exact chk_sound n f 2 h d (by omega) (by rw [he]; exact Nat.mul_le_mul_left d hle) ⟨e, he⟩
  · exact chk_sound n f 2 h e (by omega) (by rw [he]; exact Nat.mul_le_mul_right e hle) ⟨d, by rw [he, Nat.mul_comm]⟩

/-- A power modulo p by squaring. -/
def pmo (p u : Nat) : Nat → Nat → Nat
  | 0, _ => 1 % p
  | f + 1, e => (match e % 2 with | 0 => 1 | _ => u) * (pmo p u f (e / 2) * pmo p u f (e / 2) % p) % p
theorem pmo_eq (p u : Nat) : ∀ f e, e < 2 ^ f → pmo p u f e = u ^ e % p
  | 0, e, h => by
    obtain rfl : e = 0 := by simpa using h
    rfl
  | f + 1, e, h => by
    have ih := pmo_eq p u f (e / 2) (by rw [Nat.pow_succ] at h; omega)
    have h2 : e = e / 2 + e / 2 + e % 2 := by omega
    unfold pmo
    rw [ih]
    generalize hk : e / 2 = k at *
    have hm : e % 2 = 0 ∨ e % 2 = 1 := by omega
    have key : u ^ k % p * (u ^ k % p) % p = u ^ (k + k) % p := by rw [← Nat.mul_mod, ← Nat.pow_add]
    rw [key]
    rcases hm with h0 | h1
    · rw [h0] at h2 ⊢
      subst h2
      simp only [Nat.add_zero]
      rw [Nat.one_mul, Nat.mod_mod]
    · rw [h1] at h2 ⊢
      subst h2
      show u * (u ^ (k + k) % p) % p = u ^ (k + k + 1) % p
      rw [Nat.mul_mod, Nat.mod_mod, ← Nat.mul_mod, Nat.pow_succ, Nat.mul_comm]

theorem Prm.certify {N q b f : Nat} (hq : Prm q) (hf : q < 2 ^ f) (h : (decide (pmo N b f q = 1 % N) && decide (Nat.gcd (b - 1) N = 1) && decide (1 ≤ b)) = true) : ∀ r, Prm r → r ∣ N → q ∣ r - 1 := by
  simp only [Bool.and_eq_true, decide_eq_true_eq] at h
  exact order_in hq (by rw [← pmo_eq N b f q hf]; exact h.1.1) h.1.2 h.2
theorem prm_s0 : Prm 8574133 := Prm.small (f := 2931) (by decide) (by decide +kernel)
theorem prm_s1 : Prm 127 := Prm.small (f := 14) (by decide) (by decide +kernel)
theorem prm_s2 : Prm 75707 := Prm.small (f := 278) (by decide) (by decide +kernel)
theorem prm_s3 : Prm 1923133 := Prm.small (f := 1389) (by decide) (by decide +kernel)
theorem prm_q3 : Prm 1919519569386763 := by
  refine pock (F := 8574133 * 127) (by decide) (by decide +kernel) fun r hr hd => ?_
  refine two_in prm_s0 prm_s1 (by decide) ?_ ?_
  · exact Prm.certify (b := 1059928654987441) (f := 24) prm_s0 (by decide +kernel) (by decide +kernel) r hr hd
  · exact Prm.certify (b := 576774792492622) (f := 7) prm_s1 (by decide +kernel) (by decide +kernel) r hr hd
theorem prm_q2 : Prm 75445702479781427272750846543864801 := by
  refine pock (F := 1919519569386763 * 75707) (by decide) (by decide +kernel) fun r hr hd => ?_
  refine two_in prm_q3 prm_s2 (by decide) ?_ ?_
  · exact Prm.certify (b := 56747016255153332959347766392083459) (f := 51) prm_q3 (by decide +kernel) (by decide +kernel) r hr hd
  · exact Prm.certify (b := 58781699294900834553279248901967638) (f := 17) prm_s2 (by decide +kernel) (by decide +kernel) r hr hd
theorem prm_q1 : Prm 74058212732561358302231226437062788676166966415465897661863160754340907 := by
  refine pock (F := 75445702479781427272750846543864801 * 1923133) (by decide) (by decide +kernel) fun r hr hd => ?_
  refine two_in prm_q2 prm_s3 (by decide) ?_ ?_
  · exact Prm.certify (b := 69490809710348678725736597923071784769591275419387514694139338586948360) (f := 116) prm_q2 (by decide +kernel) (by decide +kernel) r hr hd
  · exact Prm.certify (b := 52266576830164329332527201090776533817489900267135412990654516667243924) (f := 21) prm_s3 (by decide +kernel) (by decide +kernel) r hr hd
theorem prm_p : Prm 57896044618658097711785492504343953926634992332820282019728792003956564819949 := by
  refine pock (F := 74058212732561358302231226437062788676166966415465897661863160754340907) (by decide) (by decide +kernel) ?_
  exact Prm.certify (b := 427094198651976259540344842774561673889945192655078505504941250475370961481) (f := 236) prm_q1 (by decide +kernel) (by decide +kernel)
end Go.Proofs.YtlhloldjlfcchaaDoor

/- Numbers of four words: by their values; the contracts of layer 8's reference, said so. -/
import Derived.Test.YtlhloldjlfcchaaDoorLessB
import Derived.Test.YtlhloldjlfcchaaDoorOrdA
namespace Go.Proofs.YtlhloldjlfcchaaDoor
open Go.RowKit Go.Shelf
set_option linter.unusedVariables false

/-- The n lowest words of a number. -/
def numW (n : Nat) (v : Int) : List Int := (List.range n).map fun j => v / 2 ^ (64 * j) % 18446744073709551616
theorem numW_words (n : Nat) (v : Int) : Words (numW n v) := by
  intro x hx
  simp only [numW, List.mem_map] at hx
  obtain ⟨j, _, rfl⟩ := hx
  omega
theorem numW_length (n : Nat) (v : Int) : (numW n v).length = n := by simp [numW]
theorem at0_numW (n : Nat) (v : Int) (j : Nat) (h : j < n) : at0 (numW n v) j = v / 2 ^ (64 * j) % 18446744073709551616 := by simp [numW, at0, h]
theorem pow_split (m : Nat) : (2 : Int) ^ (64 * (m + 1)) = 2 ^ (64 * m) * 18446744073709551616 := by rw [show 64 * (m + 1) = 64 * m + 64 by omega, Int.pow_add]; rfl
theorem pow_pos2 (m : Nat) : (0 : Int) < 2 ^ m := Int.pow_pos (by omega)
theorem valW_div (xs : List Int) (hx : Words xs) (n m : Nat) (h : m < n) : valW xs n / 2 ^ (64 * m) % 18446744073709551616 = at0 xs m := by
  induction n with
  | zero => omega
  | succ n ih =>
    have hp := pow_pos2 (64 * m)
    by_cases e : m = n
    · subst e
      have h1 := valW_lt xs hx m
      have h2 := hx.at m
      simp only [valW]
      rw [Int.add_mul_ediv_right _ _ (by omega), Int.ediv_eq_zero_of_lt h1.1 h1.2, Int.zero_add, Int.emod_eq_of_lt h2.1 h2.2]
    · have hmn : m < n := by omega
      rw [← ih hmn]
      simp only [valW]
      obtain ⟨d, rfl⟩ : ∃ d, n = m + 1 + d := ⟨n - m - 1, by omega⟩
      have e2 : (2 : Int) ^ (64 * (m + 1 + d)) = 2 ^ (64 * m) * (18446744073709551616 * 2 ^ (64 * d)) := by
        rw [show 64 * (m + 1 + d) = 64 * (m + 1) + 64 * d by omega, Int.pow_add, pow_split, Int.mul_assoc]
      rw [e2, show at0 xs (m + 1 + d) * (2 ^ (64 * m) * (18446744073709551616 * 2 ^ (64 * d))) = (at0 xs (m + 1 + d) * 2 ^ (64 * d) * 18446744073709551616) * 2 ^ (64 * m) by
        rw [← Int.mul_assoc, ← Int.mul_assoc, Int.mul_right_comm _ 18446744073709551616 _, Int.mul_right_comm _ (2 ^ (64 * m)) _, Int.mul_right_comm _ (2 ^ (64 * m)) _]]
      rw [Int.add_mul_ediv_right _ _ (by omega), Int.add_mul_emod_self_right]
theorem eq_numW (xs : List Int) (hx : Words xs) (n : Nat) (hl : xs.length = n) : xs = numW n (valW xs n) := by
  apply eq_of_all (by rw [numW_length, hl])
  intro j hj
  rw [at0_numW n _ j (by omega), valW_div xs hx n j (by omega)]
theorem valW_numW (n : Nat) (v : Int) (h0 : 0 ≤ v) : valW (numW n v) n = v % 2 ^ (64 * n) := by
  have : ∀ m, m ≤ n → valW (numW n v) m = v % 2 ^ (64 * m) := by
    intro m
    induction m with
    | zero => intro _; simp [valW]
    | succ m ih =>
      intro hm
      have hp := pow_pos2 (64 * m)
      simp only [valW]
      rw [ih (by omega), at0_numW n v m (by omega), pow_split]
      have h1 := Int.emod_add_mul_ediv v (2 ^ (64 * m))
      have h2 := Int.emod_add_mul_ediv v (2 ^ (64 * m) * 18446744073709551616)
      have h3 := Int.emod_add_mul_ediv (v / 2 ^ (64 * m)) 18446744073709551616
      have h4 : v / 2 ^ (64 * m) / 18446744073709551616 = v / (2 ^ (64 * m) * 18446744073709551616) := Int.ediv_ediv_of_nonneg (by omega)
      generalize (2 : Int) ^ (64 * m) = p at *
      rw [h4] at h3
      generalize v / (p * 18446744073709551616) = q at *
      generalize v / p % 18446744073709551616 = r at *
      generalize v % (p * 18446744073709551616) = s at *
      grind
  exact this n (Nat.le_refl _)
/-- A number's bit. -/
def bitW (xs : List Int) (j : Nat) : Int := at0 xs (j / 64) / 2 ^ (j % 64) % 2
theorem bitW_bit (xs : List Int) (j : Nat) : 0 ≤ bitW xs j ∧ bitW xs j ≤ 1 := by unfold bitW; omega
/-- The bit of a number is the bit of its words. -/
theorem bitW_val (xs : List Int) (hx : Words xs) (n j : Nat) (h : j < 64 * n) : bitW xs j = valW xs n / 2 ^ j % 2 := by
  unfold bitW
  have hm : j / 64 < n := by omega
  rw [← valW_div xs hx n (j / 64) hm]
  have e : (2 : Int) ^ j = 2 ^ (64 * (j / 64)) * 2 ^ (j % 64) := by rw [← Int.pow_add]; congr 1; omega
  rw [e, ← Int.ediv_ediv_of_nonneg (Int.le_of_lt (pow_pos2 _))]
  generalize valW xs n / 2 ^ (64 * (j / 64)) = y
  have hj : j % 64 < 64 := by omega
  generalize j % 64 = t at *
  have e2 : (18446744073709551616 : Int) = 2 ^ t * (2 * 2 ^ (63 - t)) := by
    rw [← Int.mul_assoc, Int.mul_comm (2 ^ t) 2, show (2 : Int) * 2 ^ t = 2 ^ (t + 1) by rw [Int.pow_succ, Int.mul_comm], ← Int.pow_add, show t + 1 + (63 - t) = 64 by omega]
    rfl
  have hp := pow_pos2 t
  have h1 := Int.emod_add_mul_ediv y 18446744073709551616
  conv => rhs; rw [← h1]
  rw [e2]
  generalize y / (2 ^ t * (2 * 2 ^ (63 - t))) = q
  generalize y % (2 ^ t * (2 * 2 ^ (63 - t))) = r
  rw [show r + 2 ^ t * (2 * 2 ^ (63 - t)) * q = r + (2 * (2 ^ (63 - t) * q)) * 2 ^ t by grind, Int.add_mul_ediv_right _ _ (by omega), Int.add_mul_emod_self_left]
theorem half_val (v : Int) (j : Nat) : v / 2 ^ j = 2 * (v / 2 ^ (j + 1)) + v / 2 ^ j % 2 := by
  have e : v / 2 ^ (j + 1) = v / 2 ^ j / 2 := by rw [Int.pow_succ, ← Int.ediv_ediv_of_nonneg (Int.le_of_lt (pow_pos2 j))]
  rw [e]
  omega
theorem subS_words (xs ys : List Int) (n : Nat) : Words (subS xs ys n) := by
  intro x hx
  simp only [subS, List.mem_map] at hx
  obtain ⟨m, _, rfl⟩ := hx
  unfold subW
  omega
theorem numW_val {v : Int} (h0 : 0 ≤ v) (h1 : v < 2 ^ 256) : valW (numW 4 v) 4 = v := by
  rw [valW_numW 4 v h0]
  simp only [Nat.reduceMul, Int.reducePow] at *
  omega
theorem numW_eq {xs : List Int} {v : Int} (hx : Words xs) (hl : xs.length = 4) (h : valW xs 4 = v) : xs = numW 4 v := by
  subst h
  exact eq_numW xs hx 4 hl
theorem addS_words (xs ys : List Int) (n : Nat) : Words (addS xs ys n) := by
  intro x hx
  simp only [addS, List.mem_map] at hx
  obtain ⟨m, _, rfl⟩ := hx
  unfold addW
  omega
theorem subS_num {u v : Int} (hu : 0 ≤ u ∧ u < 2 ^ 256) (hv : 0 ≤ v ∧ v < 2 ^ 256) : subS (numW 4 u) (numW 4 v) 4 = numW 4 ((u - v) % 2 ^ 256) ∧ brw (numW 4 u) (numW 4 v) 4 = if u < v then 1 else 0 := by
  have hb := brw_iff (numW 4 u) (numW 4 v) (numW_words _ _) (numW_words _ _) 4
  rw [numW_val hu.1 hu.2, numW_val hv.1 hv.2] at hb
  refine ⟨numW_eq (subS_words _ _ _) (by simp [subS]) ?_, hb⟩
  rw [val_subW _ _ (numW_words _ _) (numW_words _ _) 4 4 (Nat.le_refl _), numW_val hu.1 hu.2, numW_val hv.1 hv.2, hb]
  simp only [Nat.reduceMul, Int.reducePow] at *
  split <;> omega
theorem addS_num {u v : Int} (hu : 0 ≤ u) (hv : 0 ≤ v) (h : u + v < 2 ^ 256) : addS (numW 4 u) (numW 4 v) 4 = numW 4 (u + v) ∧ crw (numW 4 u) (numW 4 v) 4 = 0 := by
  have e := val_addW (numW 4 u) (numW 4 v) (numW_words _ _) (numW_words _ _) 4 4 (Nat.le_refl _)
  rw [numW_val hu (by omega), numW_val hv (by omega)] at e
  have hc := crw_bit (numW 4 u) (numW 4 v) (numW_words _ _) (numW_words _ _) 4
  have hs := valW_lt (addS (numW 4 u) (numW 4 v) 4) (addS_words _ _ _) 4
  simp only [Nat.reduceMul, Int.reducePow] at *
  have h0 : crw (numW 4 u) (numW 4 v) 4 = 0 := by omega
  refine ⟨numW_eq (addS_words _ _ _) (by simp [addS]) (by rw [h0] at e; omega), h0⟩
theorem ref_minus_v (u v : Int) (w : World) (hu : 0 ≤ u ∧ u < 2 ^ 256) (hv : 0 ≤ v ∧ v < 2 ^ 256) : Calls Tryd.prog 49 #[aggI .u64 (numW 4 u), aggI .u64 (numW 4 v)] w fun e w' => e = .returned (.tuple #[aggI .u64 (numW 4 ((u - v) % 2 ^ 256)), .int .u64 (if u < v then 1 else 0)]) ∧ Below w.heap.size w w' := by
  rw [← (subS_num hu hv).1, ← (subS_num hu hv).2]
  exact ref_minus_any _ _ w (numW_words _ _) (numW_words _ _) (numW_length _ _) (numW_length _ _)
theorem ref_plus_v (u v : Int) (w : World) (hu : 0 ≤ u) (hv : 0 ≤ v) (h : u + v < 2 ^ 256) : Calls Tryd.prog 48 #[aggI .u64 (numW 4 u), aggI .u64 (numW 4 v)] w fun e w' => e = .returned (.tuple #[aggI .u64 (numW 4 (u + v)), .int .u64 0]) ∧ Below w.heap.size w w' := by
  have h1 := ref_plus_any _ _ w (numW_words 4 u) (numW_words 4 v) (numW_length _ _) (numW_length _ _)
  rw [(addS_num hu hv h).1, (addS_num hu hv h).2] at h1
  exact h1
theorem ref_less_v (u v : Int) (w : World) (hu : 0 ≤ u ∧ u < 2 ^ 256) (hv : 0 ≤ v ∧ v < 2 ^ 256) : Calls Tryd.prog 37 #[aggI .u64 (numW 4 u), aggI .u64 (numW 4 v)] w fun e w' => e = .returned (.bool (decide (u < v))) ∧ Below w.heap.size w w' := by
  have h1 := ref_less_any _ _ w (numW_words 4 u) (numW_words 4 v) (numW_length _ _) (numW_length _ _)
  rw [numW_val hu.1 hu.2, numW_val hv.1 hv.2] at h1
  exact h1
/-- A number's value, by its bytes. -/
def valB (zs : List Int) : Nat → Int
  | 0 => 0
  | m + 1 => valB zs m + at0 zs m * 2 ^ (8 * m)
theorem valB_lt (zs : List Int) (hz : Bytes zs) (m : Nat) : 0 ≤ valB zs m ∧ valB zs m < 2 ^ (8 * m) := by
  induction m with
  | zero => exact ⟨by simp [valB], by simp [valB]⟩
  | succ m ih =>
    have hy := hz.at m
    simp only [valB]
    rw [show 8 * (m + 1) = 8 * m + 8 by omega, Int.pow_add]
    generalize hp : (2 : Int) ^ (8 * m) = p at *
    generalize at0 zs m = x at *
    have hp0 : 0 < p := by rw [← hp]; exact Int.pow_pos (by omega)
    have h1 : 0 ≤ x * p := Int.mul_nonneg hy.1 (by omega)
    have h2 : x * p ≤ 255 * p := Int.mul_le_mul_of_nonneg_right (by omega) (by omega)
    constructor
    · omega
    · have : p * 2 ^ 8 = 255 * p + p := by omega
      omega
theorem valB_part (za : List Int) (j m : Nat) : valB za (8 * j + m) = valB za (8 * j) + partW za j m * 2 ^ (64 * j) := by
  induction m with
  | zero => simp [partW]
  | succ m ih =>
    rw [show 8 * j + (m + 1) = 8 * j + m + 1 by omega]
    simp only [valB, ih, partW]
    rw [show 8 * (8 * j + m) = 8 * m + 64 * j by omega, Int.pow_add]
    generalize (2 : Int) ^ (8 * m) = p
    generalize (2 : Int) ^ (64 * j) = q
    grind
theorem valW_load (za : List Int) (n j : Nat) (h : j ≤ n) : valW (loadS za n) j = valB za (8 * j) := by
  induction j with
  | zero => rfl
  | succ j ih =>
    have e : at0 (loadS za n) j = partW za j 8 := by simp [loadS, at0, show j < n by omega]
    rw [show 8 * (j + 1) = 8 * j + 8 by omega, valB_part]
    simp only [valW, ih (by omega), e]
theorem load_eq (za : List Int) (hz : Bytes za) (n : Nat) : loadS za n = numW n (valB za (8 * n)) := by
  have h := eq_numW (loadS za n) (loadS_words za hz n) n (by simp [loadS])
  rw [valW_load za n n (Nat.le_refl _)] at h
  exact h
theorem valB_32 (za : List Int) (hz : Bytes za) : 0 ≤ valB za 32 ∧ valB za 32 < 2 ^ 256 := valB_lt za hz 32
theorem ref_load_v (za : List Int) (w : World) (hb : Bytes za) (hl : za.length = 32) : Calls Tryd.prog 34 #[aggI .u8 za] w fun e w' => e = .returned (aggI .u64 (numW 4 (valB za 32))) ∧ Below w.heap.size w w' := by
  have h := ref_load_any za w hb hl
  rw [load_eq za hb 4] at h
  exact h
/-- The bytes of a number. -/
def numB (v : Int) : List Int := bytesS (numW 4 v) 32
theorem ref_bytes_v (v : Int) (w : World) : Calls Tryd.prog 27 #[aggI .u64 (numW 4 v)] w fun e w' => e = .returned (aggI .u8 (numB v)) ∧ Below w.heap.size w w' := ref_bytes_any (numW 4 v) w (numW_words _ _) (numW_length _ _)
theorem numB_length (v : Int) : (numB v).length = 32 := by simp [numB, bytesS]
theorem numB_bytes (v : Int) : Bytes (numB v) := by
  intro x hx
  simp only [numB, bytesS, List.mem_map] at hx
  obtain ⟨k, _, rfl⟩ := hx
  unfold wbyte
  omega
theorem at0_numB (v : Int) (j : Nat) (h : j < 32) : at0 (numB v) j = v / 2 ^ (8 * j) % 256 := by
  have e : at0 (numB v) j = wbyte (numW 4 v) j := by simp [numB, bytesS, at0, h]
  rw [e, wbyte, at0_numW 4 v _ (by omega)]
  have e2 : (2 : Int) ^ (8 * j) = 2 ^ (64 * (j / 8)) * 2 ^ (8 * (j % 8)) := by rw [← Int.pow_add]; congr 1; omega
  rw [e2, ← Int.ediv_ediv_of_nonneg (Int.le_of_lt (pow_pos2 _))]
  generalize v / 2 ^ (64 * (j / 8)) = y
  have hj : j % 8 < 8 := by omega
  generalize j % 8 = t at *
  obtain rfl | rfl | rfl | rfl | rfl | rfl | rfl | rfl : t = 0 ∨ t = 1 ∨ t = 2 ∨ t = 3 ∨ t = 4 ∨ t = 5 ∨ t = 6 ∨ t = 7 := by omega
  all_goals (simp only [Nat.reduceMul, Int.reducePow]; omega)
theorem valB_numB (v : Int) (h0 : 0 ≤ v) (h1 : v < 2 ^ 256) : valB (numB v) 32 = v := by
  have : ∀ m, m ≤ 32 → valB (numB v) m = v % 2 ^ (8 * m) := by
    intro m
    induction m with
    | zero => intro _; simp [valB]
    | succ m ih =>
      intro hm
      have hp := pow_pos2 (8 * m)
      simp only [valB]
      rw [ih (by omega), at0_numB v m (by omega), show 8 * (m + 1) = 8 * m + 8 by omega, Int.pow_add, show (2 : Int) ^ 8 = 256 from rfl]
      have h1 := Int.emod_add_mul_ediv v (2 ^ (8 * m))
      have h2 := Int.emod_add_mul_ediv v (2 ^ (8 * m) * 256)
      have h3 := Int.emod_add_mul_ediv (v / 2 ^ (8 * m)) 256
      have h4 : v / 2 ^ (8 * m) / 256 = v / (2 ^ (8 * m) * 256) := Int.ediv_ediv_of_nonneg (by omega)
      generalize (2 : Int) ^ (8 * m) = p at *
      rw [h4] at h3
      generalize v / (p * 256) = q at *
      generalize v / p % 256 = r at *
      generalize v % (p * 256) = s at *
      grind
  rw [this 32 (Nat.le_refl _)]
  simp only [Nat.reduceMul, Int.reducePow] at *
  omega
theorem numB_inj {u v : Int} (hu : 0 ≤ u ∧ u < 2 ^ 256) (hv : 0 ≤ v ∧ v < 2 ^ 256) (h : numB u = numB v) : u = v := by
  rw [← valB_numB u hu.1 hu.2, h, valB_numB v hv.1 hv.2]
/-- A bit of a number of bytes. -/
def bitB (zs : List Int) (j : Nat) : Int := at0 zs (j / 8) / 2 ^ (j % 8) % 2
theorem bitB_bit (zs : List Int) (j : Nat) : bitB zs j = 0 ∨ bitB zs j = 1 := by unfold bitB; omega
theorem bitB_val (zs : List Int) (hz : Bytes zs) (n j : Nat) (h : j < 8 * n) : bitB zs j = valB zs n / 2 ^ j % 2 := by
  have key : ∀ n, j / 8 < n → valB zs n / 2 ^ (8 * (j / 8)) % 256 = at0 zs (j / 8) := by
    intro n
    induction n with
    | zero => omega
    | succ n ih =>
      intro hn
      have hp := pow_pos2 (8 * (j / 8))
      by_cases e : j / 8 = n
      · have h1 := valB_lt zs hz n
        have h2 := hz.at n
        subst e
        simp only [valB]
        rw [Int.add_mul_ediv_right _ _ (by omega), Int.ediv_eq_zero_of_lt h1.1 h1.2, Int.zero_add, Int.emod_eq_of_lt h2.1 (by omega)]
      · rw [← ih (by omega)]
        simp only [valB]
        obtain ⟨d, hd⟩ : ∃ d, n = j / 8 + 1 + d := ⟨n - j / 8 - 1, by omega⟩
        have e2 : (2 : Int) ^ (8 * n) = 2 ^ (8 * (j / 8)) * (256 * 2 ^ (8 * d)) := by
          rw [show (256 : Int) = 2 ^ 8 from rfl, ← Int.pow_add, ← Int.pow_add]; congr 1; omega
        rw [e2]
        generalize at0 zs n = x
        generalize (2 : Int) ^ (8 * d) = q
        generalize (2 : Int) ^ (8 * (j / 8)) = p at *
        rw [show x * (p * (256 * q)) = (x * q * 256) * p by grind, Int.add_mul_ediv_right _ _ (by omega), Int.add_mul_emod_self_right]
  unfold bitB
  rw [← key n (by omega)]
  have e : (2 : Int) ^ j = 2 ^ (8 * (j / 8)) * 2 ^ (j % 8) := by rw [← Int.pow_add]; congr 1; omega
  rw [e, ← Int.ediv_ediv_of_nonneg (Int.le_of_lt (pow_pos2 _))]
  generalize valB zs n / 2 ^ (8 * (j / 8)) = y
  have hj : j % 8 < 8 := by omega
  generalize j % 8 = t at *
  obtain rfl | rfl | rfl | rfl | rfl | rfl | rfl | rfl : t = 0 ∨ t = 1 ∨ t = 2 ∨ t = 3 ∨ t = 4 ∨ t = 5 ∨ t = 6 ∨ t = 7 := by omega
  all_goals (simp only [Int.reducePow]; omega)
theorem u8_and_one {x : Int} (h : 0 ≤ x ∧ x ≤ 255) : bits BinOp.and IntKind.u8 x 1 = x % 2 := byte_of (p := fun y => bits BinOp.and IntKind.u8 y 1 = y % 2) (by decide +kernel) h
theorem byte_shift {x : Int} (h : 0 ≤ x ∧ x ≤ 255) (t : Nat) : 0 ≤ x / 2 ^ t ∧ x / 2 ^ t ≤ 255 := by
  have h1 : 0 ≤ x / 2 ^ t := Int.ediv_nonneg h.1 (Int.le_of_lt (pow_pos2 _))
  have h2 : x / 2 ^ t ≤ x := Int.ediv_le_self _ h.1
  omega
end Go.Proofs.YtlhloldjlfcchaaDoor

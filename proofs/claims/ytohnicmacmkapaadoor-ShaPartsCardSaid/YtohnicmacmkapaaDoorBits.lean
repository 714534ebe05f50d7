/- Bit by bit: what a disjunction of numbers apart, and a mask, come to. -/
import Derived.Test.YtohnicmacmkapaaDoorBase
import Derived.Laws.BitsAllLaws
namespace Go.Proofs.YtohnicmacmkapaaDoor
open Go.RowKit
set_option linter.unusedVariables false

theorem nat_or_add (x y n : Nat) (hx : x % 2 ^ n = 0) (hy : y < 2 ^ n) : x ||| y = x + y := by
  have hx' : x = (x / 2 ^ n) <<< n := by
    rw [Nat.shiftLeft_eq]
    have := Nat.div_add_mod x (2 ^ n)
    rw [hx, Nat.add_zero, Nat.mul_comm] at this
    exact this.symm
  rw [hx', ← Nat.shiftLeft_add_eq_or_of_lt hy]
theorem u64_or_add (x y : Int) (n : Nat) (hx0 : 0 ≤ x) (hx1 : x < 18446744073709551616) (hx : x % 2 ^ n = 0) (hy0 : 0 ≤ y) (hy1 : y < 2 ^ n) (hy2 : y < 18446744073709551616) : bits .or .u64 x y = x + y := by
  obtain ⟨a, rfl⟩ := Int.eq_ofNat_of_zero_le hx0
  obtain ⟨b, rfl⟩ := Int.eq_ofNat_of_zero_le hy0
  rw [u64_or_nat a b (by omega) (by omega), nat_or_add a b n (by exact_mod_cast hx) (by exact_mod_cast hy1)]
  rfl
theorem u64_and_mask (x : Int) (n m : Nat) (hm : m = 2 ^ n - 1) (hn : m < 18446744073709551616) (hx0 : 0 ≤ x) (hx1 : x < 18446744073709551616) : bits .and .u64 x (m : Int) = x % 2 ^ n := by
  obtain ⟨a, rfl⟩ := Int.eq_ofNat_of_zero_le hx0
  rw [u64_and_nat a m (by omega) hn, hm, Nat.and_two_pow_sub_one_eq_mod]
  clear hx0 hx1 hn hm
  rw [Int.natCast_emod, Int.natCast_pow]
  rfl
theorem wrap_u64_eq (x : Int) : IntKind.u64.wrap x = x % 18446744073709551616 := IntKind.wrap_u64 x
end Go.Proofs.YtohnicmacmkapaaDoor

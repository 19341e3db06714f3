/-
  Bits of numbers below 2 to the 64. No program is named here.
-/
import Derived.Laws.BitsAllLaws
import Derived.Laws.BitsLemmas
namespace Go.Proofs.YtbcfggdifljacaaDoor
open Go

theorem wrap_u64_nat (a : Nat) (h : a < 18446744073709551616) : IntKind.u64.wrap (a : Int) = (a : Int) := by
  rw [IntKind.wrap_u64]; omega
theorem pow_lt_64 (n : Nat) (h : n < 64) : 2 ^ n < 18446744073709551616 := Nat.lt_of_lt_of_le (Nat.pow_lt_pow_right (by decide) h) (by decide)
theorem pow_le_64 (n : Nat) (h : n ≤ 64) : 2 ^ n ≤ 18446744073709551616 := Nat.le_trans (Nat.pow_le_pow_right (by decide) h) (by decide)
theorem pow_cast (n : Nat) : ((2 : Int) ^ n) = ((2 ^ n : Nat) : Int) := by simp
theorem all_bits (n : Nat) (h : n ≤ 64) : IntKind.u64.wrap (IntKind.u64.wrap (2 ^ n) - 1) = ((2 ^ n - 1 : Nat) : Int) := by
  have hp := Nat.two_pow_pos n
  have hl := pow_le_64 n h
  rw [pow_cast, IntKind.wrap_u64, IntKind.wrap_u64]
  omega
theorem bit_test (r j : Nat) (h : r < 18446744073709551616) : (bits .and .u64 ((r : Int) / 2 ^ j) 1 == 1) = r.testBit j := by
  have hd : r / 2 ^ j ≤ r := Nat.div_le_self _ _
  have e : ((r : Int) / 2 ^ j) = ((r / 2 ^ j : Nat) : Int) := by rw [pow_cast]; rfl
  have e1 : (1 : Int) = ((1 : Nat) : Int) := rfl
  rw [e, e1, u64_and_nat _ _ (by omega) (by decide), Nat.testBit]
  rw [Nat.shiftRight_eq_div_pow, Nat.and_comm 1]
  have : (r / 2 ^ j) &&& 1 = r / 2 ^ j % 2 := nat_mask1 _
  rw [this]
  rcases Nat.mod_two_eq_zero_or_one (r / 2 ^ j) with h | h <;> rw [h] <;> rfl
theorem bit_mod (r j : Nat) : ((((r : Int) / 2 ^ j).tmod 2) == 1) = r.testBit j := by
  have e : ((r : Int) / 2 ^ j) = ((r / 2 ^ j : Nat) : Int) := by rw [pow_cast]; rfl
  have e2 : (((r / 2 ^ j : Nat) : Int)).tmod 2 = ((r / 2 ^ j % 2 : Nat) : Int) := rfl
  rw [e, e2, Nat.testBit_eq_decide_div_mod_eq]
  rcases Nat.mod_two_eq_zero_or_one (r / 2 ^ j) with h | h <;> rw [h] <;> rfl
/-- Nothing of the row lies outside the lowest n bits just if it is below 2 to the n. -/
theorem over_bits (r n : Nat) (h : r < 18446744073709551616) (hn : n ≤ 64) : r &&& (18446744073709551615 - (2 ^ n - 1)) = 0 ↔ r < 2 ^ n := by
  have hp := Nat.two_pow_pos n
  have hl := pow_le_64 n hn
  have key : ∀ i, (18446744073709551615 - (2 ^ n - 1)).testBit i = (decide (i < 64) && !decide (i < n)) := by
    intro i
    have := Nat.testBit_two_pow_sub_succ (n := 64) (x := 2 ^ n - 1) (i := i) (by
      have : (2 : Nat) ^ 64 = 18446744073709551616 := by decide
      omega)
    rw [show (2 : Nat) ^ 64 - (2 ^ n - 1 + 1) = 18446744073709551615 - (2 ^ n - 1) from by
      have : (2 : Nat) ^ 64 = 18446744073709551616 := by decide
      omega] at this
    rw [this, Nat.testBit_two_pow_sub_one]
  constructor
  · intro h0
    apply Nat.lt_pow_two_of_testBit
    intro i hi
    rcases Nat.lt_or_ge i 64 with h64 | h64
    · have := congrArg (fun x => x.testBit i) h0
      simp only [Nat.testBit_and, key, Nat.zero_testBit] at this
      cases hb : r.testBit i with
      | false => rfl
      | true => rw [hb] at this; simp [h64] at this; omega
    · exact Nat.testBit_lt_two_pow (Nat.lt_of_lt_of_le h (Nat.pow_le_pow_right (n := 2) (by decide) h64))
  · intro h0
    apply Nat.eq_of_testBit_eq
    intro i
    simp only [Nat.testBit_and, key, Nat.zero_testBit]
    rcases Nat.lt_or_ge i n with hi | hi
    · simp [hi]
    · rw [Nat.testBit_lt_two_pow (Nat.lt_of_lt_of_le h0 (Nat.pow_le_pow_right (by decide) hi))]; rfl
theorem over_test (r n : Nat) (h : r < 18446744073709551616) (hn : n ≤ 64) : (bits .andNot .u64 (r : Int) ((2 ^ n - 1 : Nat) : Int) != 0) = !decide (r < 2 ^ n) := by
  have hp := Nat.two_pow_pos n
  have hl := pow_le_64 n hn
  rw [u64_andNot_nat _ _ h (by omega)]
  by_cases h1 : r < 2 ^ n
  · rw [(over_bits r n h hn).2 h1]; simp [h1]
  · have := mt (over_bits r n h hn).1 h1
    simp [h1, bne]; omega
end Go.Proofs.YtbcfggdifljacaaDoor
